import Derived.Test.YtoffdbflfikcoaaGreatDoora4
open Go.Proofs.Tryz Go.RowKit
namespace Go.Proofs.YtoffdbflfikcoaaGreatDoor
set_option maxHeartbeats 4000000
set_option maxRecDepth 100000
namespace Bd
open Go.Maps
section
variable {B s b:Nat} {O:Nat->Prop} {vars:Nat} {room:Int} {ns:List Nd} {w:World}
theorem zcd(hS:zt B w s b O vars room ns)(hl:ns.length<=90000)(hroom:(cnt ns:Int)<room)(hB:B<=w.heap.size)(v l h:Int)(hv0:0<=v)(hv1:v<24)(hl1:zh ns l=true)(hh1:zh ns h=true)(tl:v<za ns l)(th:v<za ns h) :
  zC 201 #[.pointer (some s),v,l,h] w fun e w'=>e=.returned (.tuple #[.int .i64 (yn ns v l h).2,.nilIface])/\∃O',zt B w' s b O' vars room (yn ns v l h).1/\zP O O' w w':=by
 have c0:=hS.c0
 by_cases e:l=h
 ·have hn:yn ns v l h=(ns,l):=by unfold yn;rw[zc3 e]
  rw[hn];subst e;have HS:=zH hS;clear hS hl1 hh1 tl th hn;go_enter func201,ntmps201;go_wp2;go_ret2;exact⟨rfl,O,HS.out,zP.refl _ _⟩
 ·have hn:yn ns v l h=ZH ns ⟨v,l,h⟩:=by unfold yn;rw[zc2 e]
  rw[hn];have HM:=zH (zlL hS hl hroom hB ⟨v,l,h⟩ ⟨⟨by show _<=v;omega,by show v<=_;omega⟩,y7 hl1 (by omega),y7 hh1 (by omega)⟩ ⟨hv0,hv1,hl1,hh1,tl,th⟩);unfold Nd.val at HM;clear hS hl1 hh1 tl th hn;generalize ZH ns ⟨v,l,h⟩=r at *;go_enter func201,ntmps201;go_wp2_with fail;refine HM.out.mono ?_;rintro e w' ⟨rfl,hO⟩;go_wp2;go_ret2;exact⟨rfl,hO⟩
theorem zjg(hS:zt B w s b O vars room ns)(hl:ns.length<=90000)(h v:Int)(hi:I64 h)(hv1:v<24) :
  zR 234 #[.pointer (some s),h,v] w (.tuple #[(loS ns h v),(hiS ns h v)]):=by
 have c0:=hS.c0;have HG:=zH (YF hS h hi hl);have y:=hS.slt
 by_cases ht:za ns h=24
 ·have e1:loS ns h v=h:=by unfold loS;rw[zc2 (by omega)]
  have e2:hiS ns h v=h:=by unfold hiS;rw[zc2 (by omega)]
  rw[e1,e2];rw[show decide (za ns h≠24)=false by simp[ht]] at HG;generalize zo ns h=gn at *;obtain⟨gv,gl,gh⟩:=gn;unfold Nd.val at HG;clear hS e1 e2 ht;go_enter func234,ntmps234;go_wp2_with fail;refine HG.out.mono ?_;rintro e w1 ⟨rfl,j⟩;have o:=j.alloc j.size (.cells #[gv,gl,gh] 200);clear HG;go_wp2;go_ret2;exact⟨rfl,o⟩
 ·rw[show decide (za ns h≠24)=true by simp[ht]] at HG;have p:(zo ns h).v=za ns h:=by
   obtain⟨h1,h2,h3,h4⟩:=xo ht;unfold zo;rw[zc2 ht];exact h3.symm
  have q:zo ns h=nd ns (pl h):=by unfold zo;rw[zc2 ht];rfl
  by_cases ev:za ns h=v
  ·have e1:loS ns h v=(zo ns h).l:=by unfold loS;rw[zc3 ev,q]
   have e2:hiS ns h v=(zo ns h).h:=by unfold hiS;rw[zc3 ev,q]
   rw[e1,e2];rw[ev] at p;generalize zo ns h=gn at *;obtain⟨gv,gl,gh⟩:=gn;simp only at p;subst p;unfold Nd.val at HG;clear hS e1 e2 ht ev q;go_enter func234,ntmps234;go_wp2_with fail;refine HG.out.mono ?_;rintro e w1 ⟨rfl,j⟩;have o:=j.alloc j.size (.cells #[gv,gl,gh] 200);obtain⟨x0,x1,x2,-⟩:=xA w1 (.int .i64 gv) (.int .i64 gl) (.int .i64 gh) 200;clear HG;go_wp2_with fail;go_quiet (fail);go_wp2;go_ret2;exact⟨rfl,o.trans (xp _ _ _)⟩
  ·have e1:loS ns h v=h:=by unfold loS;rw[zc2 ev]
   have e2:hiS ns h v=h:=by unfold hiS;rw[zc2 ev]
   rw[e1,e2];have u:¬(zo ns h).v=v:=by rw[p];exact ev
   generalize zo ns h=gn at *;obtain⟨gv,gl,gh⟩:=gn;simp only at u;unfold Nd.val at HG;clear hS e1 e2 ht ev q p;go_enter func234,ntmps234;go_wp2_with fail;refine HG.out.mono ?_;rintro e w1 ⟨rfl,j⟩;have o:=j.alloc j.size (.cells #[gv,gl,gh] 200);obtain⟨x0,x1,x2,-⟩:=xA w1 (.int .i64 gv) (.int .i64 gl) (.int .i64 gh) 200;clear HG;go_wp2;go_ret2;exact⟨rfl,o⟩
theorem zgb(hS:zt B w s b O vars room ns)(hl:ns.length<=90000)(bf:Nat){cp:Nat}(fs:List Int)(hF:Zp w bf fs)(hfl:fs.length<=1000)(hall:∀x∈fs,zh ns x=true) :
  zC 23 #[.pointer (some s),.slice (some bf) fs.length cp] w fun e w'=>e=.returned .nilIface/\w=w':=by
 have c0:=hS.c0;have HS:=zH hS;have HF:=zH hF;have HA:=zH hall;clear hS hF hall;go_enter func23,ntmps23;go_wp2_with fail;go_loop [9] (fun i=>∃k:Nat,k<=fs.length/\i=.int .i64 k) (fun i=>fs.length-(intOf i).toNat)
 case atStart=>exact⟨0,zf6 _,rfl⟩
 case round =>
  obtain⟨k,hk,rfl⟩:=hrel
  by_cases hlt:k<fs.length
  ·have ck:=HF.out.cells k hlt;have HH:=zH (zfy HS.out fs[k] (HF.out.ok _ (zr0 hlt)) hl);rw[HA.out _ (zr0 hlt)] at HH;generalize fs[k]=x at *;go_wp2_with fail;refine HH.out.mono ?_;rintro e w' ⟨rfl,rfl⟩;clear HH;go_wp2;go_round
   case rel=>exact⟨k+1,by omega,by go_num⟩
   case measure=>simp[intOf];omega
  ·go_wp2;go_ret;exact⟨rfl,rfl⟩
theorem zpP(hS:zt B w s b O vars room ns)(v:Int)(h0:0<=v)(h1:v<(vars:Int)) :
  zC 200 #[.pointer (some s),v] w fun e w'=>e=.returned .nilIface/\w=w':=by
 have c1:=hS.c1;clear hS;go_enter func200,ntmps200;go_wp2
 all_goals
  go_ret;exact⟨rfl,rfl⟩
end
end Bd
namespace Bd
open Go.Maps
theorem zfN:(264:TypeId)<prog.types.size:=zrZ (by kernel_rfl)
theorem zmO:(match prog.underlying 264 with|some (.array _ _)|some (.struct _)=>true|_=>false)=true:=by rw[zt6]
theorem zcr:Keyed prog 264:=Keyed.of_law (deep_law_laid zgp (m:=2) (by omega) zfN (by kernel_rfl) zmO)
theorem zok:prog.keyType 264=true:=by kernel_rfl
theorem zfi:prog.cellsOf 264=3:=by kernel_rfl
theorem zbO(n:Nd)(h:n.Ok):keyOf prog 264 n.val=some n.lit:=by
 have hf:n.val.formed prog 264=true:=by simp[Value.formed,underlying264,zfi,Nd.val]
 unfold keyOf;rw[zt6];simp only[zok,hf,Bool.and_self,ztL];obtain⟨d,hd⟩:∃d,prog.types.size+1=d+2:=⟨prog.types.size-1,by have:0<prog.types.size:=Nat.lt_of_le_of_lt (zf6 _) zfN;omega⟩;rw[hd];unfold Program.keyLits;rw[zt6];have hc:n.val.cells.toList=[.int .i64 n.v,.int .i64 n.l,.int .i64 n.h]:=rfl;rw[hc];simp[zfi,zdO,List.range,List.range.loop,Xn d h.1,Xn d h.2.1,Xn d h.2.2,Nd.lit]
theorem Rep.put_over{α β:Type}[DecidableEq α]{ok:α->Prop}{kl:α->Lit}{el:β->DataW Unit}{D:DataW Unit}{L:List (α × β)}(h:Rep ok kl el D L)(inj:∀a b,ok a->ok b->kl a=kl b->a=b)(key:∀a,WideAt.IsKeyLit (kl a)){a:α}(b:β)(hm:a∈L.map Prod.fst) :
  Rep ok kl el (D.put (kl a) (el b)) (L.map fun q=>if q.1=a then (q.1,b) else q):=by
 have hk:(L.map fun q=>if q.1=a then (q.1,b) else q).map Prod.fst=L.map Prod.fst:=by
  rw[List.map_map];apply List.map_congr_left;intro q _;simp only[Function.comp];split<;>rfl
 obtain⟨p0,o,rfl⟩:=zrA.1 hm;have ha:=h.oks p0 o;have j:∀c,ok c->c≠p0.1->kl c≠kl p0.1:=fun c hc p e=>p (inj c p0.1 hc ha e);refine⟨h.tidy.put (key _) _,?_,?_,?_,?_,?_,by rw[hk];exact h.nodup⟩
 ·rw[size_put h.tidy,(h.has p0.1 ha).2 hm];simp[h.size]
 ·intro q hq;obtain⟨r,hr,rfl⟩:=zrA.1 hq;have:=h.oks r hr;split<;>exact this
 ·intro c hc;rw[hk]
  by_cases e:c=p0.1
  ·rw[e,has_put_same h.tidy.isMap (key _)];simp only[true_iff];exact hm
  ·rw[has_put_other (j c hc e)];exact h.has c hc
 ·intro x hx;have u:∃r∈L,x=kl r.1:=by
   by_cases e:x=kl p0.1
   ·exact⟨p0,o,e⟩
   ·rw[has_put_other e] at hx;exact h.all x hx
  obtain⟨r,hr,e⟩:=u;exact⟨_,zsy hr,by rw[e];split<;>rfl⟩
 ·intro q hq z;obtain⟨r,hr,rfl⟩:=zrA.1 hq
  by_cases e:r.1=p0.1
  ·rw[zc3 e];show (D.put (kl p0.1) (el b)).atKey (kl r.1) z=el b;rw[e];exact atKey_put_same h.tidy.isMap (key _) _ _
  ·rw[zc2 e,atKey_put_other (j r.1 (h.oks r hr) e)];exact h.at' r hr z
section
variable {w:World} {bm n:Nat} {D:DataW Unit} {L:List (Nd × Int)}
theorem ziU(hD:w.ownsMap prog 264 (plainElem prog 3) bm n D)(hR:Rep Nd.Ok Nd.lit (fun x:Int=>.lit (.int .i64 x)) D L){p:Nd × Int}(hp:p∈L) :
  (Instr.lookup 337 (.map (some bm)) (.agg #[p.1.v,p.1.l,p.1.h]) true).run prog w=.ok (.tuple #[p.2,true]) w:=by
 obtain⟨v,ps,j,hv⟩:=hD.look_ok zcr underlying337 (JR w) (zd:=.lit (.int .i64 0)) (zp:=[]) (Xj ⟨by omega,by omega⟩) (zbO p.1 (hR.oks p hp));rw[hR.at' p hp] at hv;obtain⟨a,rfl,hz,-⟩:=plainElem_int_inv zrn hv;rw[(hR.has p.1 (hR.oks p hp)).2 (zsy hp)] at j;simp at hz;rw[<-hz.1] at j;exact j
theorem zhB(hD:w.ownsMap prog 264 (plainElem prog 3) bm n D)(hR:Rep Nd.Ok Nd.lit (fun x:Int=>.lit (.int .i64 x)) D L){a:Nd}(ha:a.Ok)(hn:a∉L.map Prod.fst) :
  (Instr.lookup 337 (.map (some bm)) (.agg #[a.v,a.l,a.h]) true).run prog w=.ok (.tuple #[(0:Int),false]) w:=by
 obtain⟨v,ps,j,hv⟩:=hD.look_ok zcr underlying337 (JR w) (zd:=.lit (.int .i64 0)) (zp:=[]) (Xj ⟨by omega,by omega⟩) (zbO a ha);have hh:=hR.not ha hn;rw[atKey_of_not_has hh] at hv;obtain⟨c,rfl,hz,-⟩:=plainElem_int_inv zrn hv;rw[hh] at j;simp at hz;rw[<-hz.1] at j;exact j
theorem zoD(hD:w.ownsMap prog 264 (plainElem prog 3) bm L.length D)(hR:Rep Nd.Ok Nd.lit (fun x:Int=>.lit (.int .i64 x)) D L)(hl:L.length<1000000){a:Nd}(ha:a.Ok){x:Int}(hx:I64 x) :
  ∃w' D',(Instr.mapUpdate 337 (.map (some bm)) (.agg #[a.v,a.l,a.h]) (.int .i64 x)).run prog w=.ok () w'/\w'.ownsMap prog 264 (plainElem prog 3) bm (ZR L a x).length D'/\Rep Nd.Ok Nd.lit (fun x:Int=>.lit (.int .i64 x)) D' (ZR L a x)/\zc (fun k=>k=bm) w w':=by
 obtain⟨w',j,h1,h2⟩:=hD.update zcr underlying337 (by unfold maxLen;omega) (zbO a ha) (Xj hx);have hR':Rep Nd.Ok Nd.lit (fun x:Int=>.lit (.int .i64 x)) (D.put a.lit (.lit (.int .i64 x))) (ZR L a x):=by
  unfold ZR
  by_cases hm:a∈L.map Prod.fst
  ·rw[zc3 hm];exact hR.put_over (fun _ _=>K9) zaK x hm
  ·rw[zc2 hm];exact hR.put (fun _ _=>K9) zaK ha hm x
 exact⟨w',_,j,hR'.size▸Z1 h1,hR',zc.of_grown h2 (fun i h=>by cases h;rfl)⟩
end
structure Zf(B:Nat)(w:World)(wk dm s:Nat)(F:FuncId)(m:List (Nd × Int)):Prop where
 lt:wk<w.heap.size
 c0:w.cell? wk=some (.pointer (some s))
 c1:w.cell? ⟨wk,1,none⟩=some (.func (.func F) #[] #[])
 c2:w.cell? ⟨wk,2,none⟩=some (.map (some dm))
 hmap:∃D,w.ownsMap prog 264 (plainElem prog 3) dm m.length D/\Rep Nd.Ok Nd.lit (fun x:Int=>.lit (.int .i64 x)) D m
 d:dm≠wk
 Bd:B<=dm
 Bw:B<=wk
section
variable {B wk dm s:Nat} {F:FuncId} {m m':List (Nd × Int)} {w w':World}
theorem Zf.kept{S:Nat->Prop}(h:Zf B w wk dm s F m)(hk:zc S w w')(h1:¬S wk)(h2:¬S dm):Zf B w' wk dm s F m:=by
 obtain⟨D,hD,hR⟩:=h.hmap;exact⟨zc6 h.lt hk.size,(hk.cell (a:=wk) h.lt h1).trans h.c0,(hk.cell (a:=⟨wk,1,none⟩) h.lt h1).trans h.c1,(hk.cell (a:=⟨wk,2,none⟩) h.lt h1).trans h.c2,⟨D,Ql hD hk h2,hR⟩,h.d,h.Bd,h.Bw⟩
theorem Zf.new(h:Zf B w wk dm s F m)(hb:zB w w'):Zf B w' wk dm s F m:=h.kept (zc.of_below hb (fun _=>False)) (fun h=>h) (fun h=>h)
theorem Zf.dlt(h:Zf B w wk dm s F m):dm<w.heap.size:=by obtain⟨D,hD,-⟩:=h.hmap;exact hD.lt
theorem Zf.turned{D':DataW Unit}(h:Zf B w wk dm s F m)(hk:zc (fun j=>j=dm) w w')(hD:w'.ownsMap prog 264 (plainElem prog 3) dm m'.length D')(hR:Rep Nd.Ok Nd.lit (fun x:Int=>.lit (.int .i64 x)) D' m'):Zf B w' wk dm s F m':=by
 have hn:wk≠dm:=fun e=>h.d e.symm;exact⟨zc6 h.lt hk.size,(hk.cell (a:=wk) h.lt hn).trans h.c0,(hk.cell (a:=⟨wk,1,none⟩) h.lt hn).trans h.c1,(hk.cell (a:=⟨wk,2,none⟩) h.lt hn).trans h.c2,⟨D',hD,hR⟩,h.d,h.Bd,h.Bw⟩
end
theorem zpx(s:Nat)(F:FuncId)(w:World)(B:Nat)(hB:B<=w.heap.size) :
  zC 203 #[.pointer (some s),.func (.func F) #[] #[]] w fun e w'=>e=.returned (.pointer (some ⟨w.heap.size+1,0,none⟩))/\Zf B w' (w.heap.size+1) w.heap.size s F []/\zB w w':=by
 have j:=@run_makeMap prog;have hE:Zf B ((w.alloc (.map #[] 0)).alloc (.cells #[.pointer (some s),.func (.func F) #[] #[],.map (some w)] 339)) (w.heap.size+1) w.heap.size s F []:=by
  have e1:(w.alloc (.map #[] 0)).heap.size=w.heap.size+1:=by simp
  have hm:((w.alloc (.map #[] 0)).alloc (.cells #[.pointer (some s),.func (.func F) #[] #[],.map (some w)] 339)).ownsMap prog 264 (plainElem (H:=Unit) prog 3) w.heap.size 0 (.map []):=(World.ownsMap_made w _ _ _).alloc _;refine⟨by simp,?_,?_,?_,⟨_,hm,Rep.empty⟩,by omega,hB,by omega⟩
  ·rw[<-e1];simp
  ·rw[<-e1];simp
  ·rw[<-e1];simp
 have hb:zB w ((w.alloc (.map #[] 0)).alloc (.cells #[.pointer (some s),.func (.func F) #[] #[],.map (some w)] 339)):=(below_new w _).alloc (below_new w _).size _;have HE:=zH hE;clear hE;go_enter func203,ntmps203;go_wp2;go_ret;exact⟨rfl,HE.out,hb⟩
theorem znu(k:Nd)(w:World):zR 154 #[k.val] w (.tuple #[.int .i64 ((qP true k).getD 0),.bool (qP true k).isSome]):=by
 obtain⟨a,b,c⟩:=k;have hb:=below_new w (.cells #[a,b,c] 264);obtain⟨x0,x1,x2,-⟩:=xA w (.int .i64 a) (.int .i64 b) (.int .i64 c) 264;unfold Nd.val;show Calls _ _ _ _ fun e w'=>e=.returned (.tuple #[.int .i64 ((yN ⟨a,b,c⟩).getD 0),.bool (yN ⟨a,b,c⟩).isSome])/\_
 by_cases c1:a=1
 ·have hk:yN ⟨a,b,c⟩=some b:=by unfold yN;rw[zc3 (.inl c1)]
  rw[hk];clear hk;subst c1;go_enter zuF,ztZ;go_wp2;go_ret2;exact⟨rfl,hb⟩
 by_cases c2:b=c
 ·have hk:yN ⟨a,b,c⟩=some b:=by unfold yN;rw[zc3 (.inr c2)]
  rw[hk];clear hk;subst c2;go_enter zuF,ztZ;go_wp2;go_ret2;exact⟨rfl,hb⟩
 have q1:(a==1)=false:=by simpa using c1
 have q2:(b==c)=false:=by simpa using c2
 by_cases c3:a=0
 ·have hk:yN ⟨a,b,c⟩=some c:=by unfold yN;rw[zc2 (by simp[c1,c2]),zc3 c3]
  rw[hk];clear hk;subst c3;go_enter zuF,ztZ;go_wp2;go_ret2;exact⟨rfl,hb⟩
 have q3:(a==0)=false:=by simpa using c3
 by_cases c4:b=1
 ·by_cases c5:c=0
  ·have hk:yN ⟨a,b,c⟩=some a:=by unfold yN;rw[zc2 (by simp[c1,c2]),zc2 c3,zc3 ⟨c4,c5⟩]
   rw[hk];clear hk;subst c4 c5;go_enter zuF,ztZ;go_wp2;go_ret2;exact⟨rfl,hb⟩
  ·have hk:yN ⟨a,b,c⟩=none:=by unfold yN;rw[zc2 (by simp[c1,c2]),zc2 c3,zc2 (by simp[c5])]
   rw[hk];clear hk;subst c4;have q5:(c==0)=false:=by simpa using c5
   go_enter zuF,ztZ;go_wp2;go_ret2;exact⟨rfl,hb⟩
 ·have hk:yN ⟨a,b,c⟩=none:=by unfold yN;rw[zc2 (by simp[c1,c2]),zc2 c3,zc2 (by simp[c4])]
  rw[hk];clear hk;have q4:(b==1)=false:=by simpa using c4
  go_enter zuF,ztZ;go_wp2;go_ret2;exact⟨rfl,hb⟩
end Bd
namespace Bd
open Go.Maps
structure WS(B:Nat)(w:World)(s b wk dm:Nat)(O:Nat->Prop)(F:FuncId)(op:Bool)(vars:Nat)(room:Int)(ns:List Nd)(m:List (Nd × Int)):Prop where
 space:zt B w s b O vars room ns
 work:Zf B w wk dm s F m
 good:zG vars ns
 memo:QB op ns m
 o1:¬O wk
 o2:¬O dm
 sd:s≠dm
 hB:B<=w.heap.size
structure MM(O O':Nat->Prop)(dm:Nat)(w w':World):Prop where
 kept:zc (fun j=>O j\/j=dm) w w'
 own:∀k,O' k->O k\/w.heap.size<=k
 map:∀k,O' k->qj w' k\/(O k/\¬qj w k)
structure Y9(F:FuncId)(op:Bool):Prop where
 enters:∀(args:Array Value) (w:World),(callFunc F args).run prog w=.ok (.enter F args) w
 does:∀(k:Nd) (w:World),zR F #[k.val] w (.tuple #[.int .i64 ((qP op k).getD 0),.bool (qP op k).isSome])
theorem zfM:Y9 154 true:=⟨fun _ _=>by kernel_rfl,znu⟩
section
variable {B s b wk dm:Nat} {O O' O'':Nat->Prop} {F:FuncId} {op:Bool} {vars:Nat} {room:Int} {ns:List Nd} {m:List (Nd × Int)} {w w' w'':World} {k:Nd}
theorem WS.new(h:WS B w s b wk dm O F op vars room ns m)(hb:zB w w'):WS B w' s b wk dm O F op vars room ns m :=
 ⟨h.space.new hb,h.work.new hb,h.good,h.memo,h.o1,h.o2,h.sd,zf1 h.hB hb.size⟩
theorem MM.of_below(hb:zB w w'):MM O O dm w w':=⟨zc.of_below hb _,fun _ h=>.inl h,(zP.of_below O hb).map⟩
theorem MM.of_moves(h:zP O O' w w'):MM O O' dm w w':=⟨h.kept.mono (fun _ h=>.inl h),h.own,h.map⟩
theorem MM.trans(h:MM O O' dm w w')(k:MM O' O'' dm w' w''):MM O O'' dm w w'' :=
 ⟨h.kept.andThen k.kept (fun i hi j=>by
   rcases hi with hi|hi
   ·rcases h.own i hi with h1|h1
    ·exact .inl h1
    ·omega
   ·exact .inr hi),fun i hi=>by
  rcases k.own i hi with h1|h1
  ·exact h.own i h1
  ·exact .inr (zf1 h.kept.size h1),fun i hi=>by
  rcases k.map i hi with h1|⟨h1,h2⟩
  ·exact .inl h1
  ·rcases h.map i h1 with h3|h3
   ·exact absurd h3 h2
   ·exact .inr h3⟩
theorem MM.size(h:MM O O' dm w w'):w.heap.size<=w'.heap.size:=h.kept.size
theorem MM.beside(h:MM O O' dm w w'){j:Nat}(hlt:j<w.heap.size)(hn:¬O j):¬O' j:=fun ho=>by
 rcases h.own j ho with h1|h1
 ·exact hn h1
 ·omega
theorem MM.cell(h:MM O O' dm w w'){a:Addr}(hlt:a.block<w.heap.size)(hn:¬O a.block)(hd:a.block≠dm):w'.cell? a=w.cell? a:=h.kept.cell hlt (fun ho=>ho.elim hn hd)
theorem MM.frozen(h:MM O O' dm w w'){a:Addr}(hlt:a.block<w.heap.size)(hn:¬O a.block)(hd:a.block≠dm):w'.frozen? a=w.frozen? a:=h.kept.frozen hlt (fun ho=>ho.elim hn hd)
theorem WS.moved(h:WS B w s b wk dm O F op vars room ns m){ns':List Nd}(hS:zt B w' s b O' vars room ns')(hm:zP O O' w w')(hg:zG vars ns')(hx:Ext ns ns'):WS B w' s b wk dm O' F op vars room ns' m :=
 ⟨hS,h.work.kept hm.kept h.o1 h.o2,hg,h.memo.ext h.good.ranked hx,hm.beside h.work.lt h.o1,hm.beside h.work.dlt h.o2,h.sd,zf1 h.hB hm.size⟩
theorem zgf(h3:yX ns k)(hl:ns.length<=90000):k.Ok:=⟨y7 h3.a (by omega),y7 h3.b (by omega),y7 h3.c (by omega)⟩
def Xg(B s b wk dm:Nat)(O:Nat->Prop)(F:FuncId)(op:Bool)(vars:Nat)(room:Int)(r:List Nd × List (Nd × Int) × Int)(w:World)(e:Ending)(w':World):Prop :=
 e=.returned (.tuple #[r.2.2,.nilIface])/\∃O',WS B w' s b wk dm O' F op vars room r.1 r.2.1/\MM O O' dm w w'
theorem zdH(h:WS B w s b wk dm O F op vars room ns m)(hF:Y9 F op)(x:Int)(hk:qP op k=some x) :
  zC 204 #[.pointer (some wk),k.val] w (Xg B s b wk dm O F op vars room (ns,m,x) w):=by
 have HW:=zH h;have c1:=h.work.c1;have wl:=h.work.lt;have HK:Hid (∀W,zR F #[k.val] W (.tuple #[x,true])):=fun W=>by
  have:=hF.does k W;rw[hk] at this;exact this
 have q:=hF.enters;clear h hF hk;obtain⟨ka,kb,kc⟩:=k;have hb:=below_new w (.cells #[ka,kb,kc] 264);obtain⟨x0,x1,x2,-⟩:=xA w (.int .i64 ka) (.int .i64 kb) (.int .i64 kc) 264;have d1:=(hb.cell (p:=⟨wk,1,none⟩) wl).trans c1;have bl:w.heap.size<(w.alloc (.cells #[ka,kb,kc] 264)).heap.size:=by simp
 have y:=hb.size;have u:wk<(w.alloc (.cells #[ka,kb,kc] 264)).heap.size:=by omega
 unfold Nd.val at HK ⊢;go_enter func204,ntmps204;go_wp2_with fail;have HB:=zH hb;clear hb c1;generalize (w.alloc (.cells #[ka,kb,kc] 264))=W1 at *;have e0:W1.drew.cell? ⟨wk,1,none⟩=some (.func (.func F) #[] #[]):=d1;have f0:W1.drew.cell? w.heap.size=some (.int .i64 ka):=x0;have f1:W1.drew.cell? ⟨w.heap.size,1,none⟩=some (.int .i64 kb):=x1;have f2:W1.drew.cell? ⟨w.heap.size,2,none⟩=some (.int .i64 kc):=x2;go_region_held3 (fun w'=>w'.cell? ⟨wk,1,none⟩=some (.func (.func F) #[] #[])/\w'.cell? w.heap.size=some (.int .i64 ka)/\w'.cell? ⟨w.heap.size,1,none⟩=some (.int .i64 kb)/\w'.cell? ⟨w.heap.size,2,none⟩=some (.int .i64 kc)) (first|exact⟨e0,f0,f1,f2⟩|exact⟨(j.cell (p:=⟨wk,1,none⟩) u).trans e0,(j.cell (p:=w) bl).trans f0,(j.cell (p:=⟨w.heap.size,1,none⟩) bl).trans f1,(j.cell (p:=⟨w.heap.size,2,none⟩) bl).trans f2⟩)
  (first|(with_reducible refine(HK.out _).mono ?_;rintro e w2 ⟨rfl,j⟩))
 go_wp2;go_ret2;have o:zB w w2:=(HB.out.drew).trans (j.mono HB.out.size);exact⟨rfl,O,HW.out.new o,MM.of_below o⟩
theorem zjm(h:WS B w s b wk dm O F op vars room ns m)(hF:Y9 F op)(x:Int)(hk:qP op k=none)(hx:(k,x)∈m) :
  zC 204 #[.pointer (some wk),k.val] w (Xg B s b wk dm O F op vars room (ns,m,x) w):=by
 have HW:=zH h;have c1:=h.work.c1;have c2:=h.work.c2;have wl:=h.work.lt;have HL:Hid (∀W,zB w W->(Instr.lookup 337 (.map (some dm)) (.agg #[k.v,k.l,k.h]) true).run prog W=.ok (.tuple #[x,true]) W):=fun W hW=>by
  obtain⟨D,hD,hR⟩:=(h.work.new hW).hmap;exact ziU hD hR hx
 have HK:Hid (∀W,zR F #[k.val] W (.tuple #[(0:Int),false])):=fun W=>by
  have:=hF.does k W;rw[hk] at this;exact this
 have u:=hF.enters;clear h hF hk hx;obtain⟨ka,kb,kc⟩:=k;have hb:=below_new w (.cells #[ka,kb,kc] 264);obtain⟨x0,x1,x2,-⟩:=xA w (.int .i64 ka) (.int .i64 kb) (.int .i64 kc) 264;have d1:=(hb.cell (p:=⟨wk,1,none⟩) wl).trans c1;have d2:=(hb.cell (p:=⟨wk,2,none⟩) wl).trans c2;have bl:w.heap.size<(w.alloc (.cells #[ka,kb,kc] 264)).heap.size:=by simp
 have C:=hb.size;have q:wk<(w.alloc (.cells #[ka,kb,kc] 264)).heap.size:=by omega
 unfold Nd.val at HK ⊢;simp only at HL;go_enter func204,ntmps204;go_wp2_with fail;have HB:=zH hb;clear hb c1 c2;generalize (w.alloc (.cells #[ka,kb,kc] 264))=W1 at *;have e0:W1.drew.cell? ⟨wk,1,none⟩=some (.func (.func F) #[] #[]):=d1;have f0:W1.drew.cell? w.heap.size=some (.int .i64 ka):=x0;have f1:W1.drew.cell? ⟨w.heap.size,1,none⟩=some (.int .i64 kb):=x1;have f2:W1.drew.cell? ⟨w.heap.size,2,none⟩=some (.int .i64 kc):=x2;go_region_held3 (fun w'=>w'.cell? ⟨wk,1,none⟩=some (.func (.func F) #[] #[])/\w'.cell? w.heap.size=some (.int .i64 ka)/\w'.cell? ⟨w.heap.size,1,none⟩=some (.int .i64 kb)/\w'.cell? ⟨w.heap.size,2,none⟩=some (.int .i64 kc)) (first|exact⟨e0,f0,f1,f2⟩|exact⟨(j.cell (p:=⟨wk,1,none⟩) q).trans e0,(j.cell (p:=w) bl).trans f0,(j.cell (p:=⟨w.heap.size,1,none⟩) bl).trans f1,(j.cell (p:=⟨w.heap.size,2,none⟩) bl).trans f2⟩)
  (first|(with_reducible refine(HK.out _).mono ?_;rintro e w2 ⟨rfl,j⟩))
 have o:zB w w2:=(HB.out.drew).trans (j.mono HB.out.size);have g0:w2.drew.cell? w.heap.size=some (.int .i64 ka):=(j.cell (p:=w) bl).trans f0;have g1:w2.drew.cell? ⟨w.heap.size,1,none⟩=some (.int .i64 kb):=(j.cell (p:=⟨w.heap.size,1,none⟩) bl).trans f1;have g2:w2.drew.cell? ⟨w.heap.size,2,none⟩=some (.int .i64 kc):=(j.cell (p:=⟨w.heap.size,2,none⟩) bl).trans f2;have gm:w2.drew.cell? ⟨wk,2,none⟩=some (.map (some dm)):=(j.cell (p:=⟨wk,2,none⟩) q).trans d2;have y:=HL.out _ o.drew;clear e0 f0 f1 f2 HK HL d1 d2 x0 x1 x2;go_wp2_with fail;go_region_held3 (fun w'=>w'.cell? ⟨wk,2,none⟩=some (.map (some dm))/\w'.cell? w.heap.size=some (.int .i64 ka)/\w'.cell? ⟨w.heap.size,1,none⟩=some (.int .i64 kb)/\w'.cell? ⟨w.heap.size,2,none⟩=some (.int .i64 kc)) (exact⟨gm,g0,g1,g2⟩) (first|fail);go_wp2;go_ret2;exact⟨rfl,O,HW.out.new o.drew,MM.of_below o.drew⟩
end
end Bd
namespace Bd
open Go.Maps
theorem znC{P:Program}(w:World)(ts:Array TypeId)(t:TypeId)(k:IntKind)(x y z:Int) :
  (Builtin.min_ ts t #[.int k x,.int k y,.int k z]).run P w=.ok (.int k (min (min x y) z)) w:=by
 have e:∀x y:Int,(if y<x then y else x)=min x y:=fun x y=>by
  rw[Int.min_def];split<;>split<;>omega
 simp[Builtin.min_,Builtin.min2,e]
structure Tri(w:World)(bk:Nat)(a b c:Int):Prop where
 lt:bk<w.heap.size
 c0:w.cell? bk=some (.int .i64 a)
 c1:w.cell? ⟨bk,1,none⟩=some (.int .i64 b)
 c2:w.cell? ⟨bk,2,none⟩=some (.int .i64 c)
 fz:∀i,w.frozen? ⟨bk,i,none⟩=false
section
variable {w w':World} {bk bk' i:Nat} {a b c:Int}
theorem Tri.kept{S:Nat->Prop}(h:Tri w bk a b c)(hk:zc S w w')(hn:¬S bk):Tri w' bk a b c :=
 ⟨zc6 h.lt hk.size,(hk.cell (a:=bk) h.lt hn).trans h.c0,(hk.cell (a:=⟨bk,1,none⟩) h.lt hn).trans h.c1,(hk.cell (a:=⟨bk,2,none⟩) h.lt hn).trans h.c2,fun i=>(hk.frozen (a:=⟨bk,i,none⟩) h.lt hn).trans (h.fz i)⟩
theorem Tri.new(h:Tri w bk a b c)(hb:zB w w'):Tri w' bk a b c:=h.kept (zc.of_below hb (fun _=>False)) (fun h=>h)
theorem Tri.other(h:Tri w bk a b c)(u:Value)(hne:bk≠bk'):Tri (w.setCell ⟨bk',i,none⟩ u) bk a b c:=h.kept (zc.setCell (S:=fun j=>j=bk') w ⟨bk',i,none⟩ u rfl) hne
theorem zaX(w:World)(x:Addr)(u:Value):(w.setCell x u).heap.size=w.heap.size:=by simp[World.setCell]
theorem Tri.set0(h:Tri w bk a b c)(x:Int):Tri (w.setCell bk (.int .i64 x)) bk x b c :=
 ⟨by rw[zaX];exact h.lt,zrD _ _ _ h.c0,by rw[zrc _ _ _ _ (by simp)];exact h.c1,by rw[zrc _ _ _ _ (by simp)];exact h.c2,fun i=>by rw[zrE];exact h.fz i⟩
theorem Tri.set1(h:Tri w bk a b c)(x:Int):Tri (w.setCell ⟨bk,1,none⟩ (.int .i64 x)) bk a x c :=
 ⟨by rw[zaX];exact h.lt,by rw[zrc _ _ _ _ (by simp)];exact h.c0,zrD _ _ _ h.c1,by rw[zrc _ _ _ _ (by simp)];exact h.c2,fun i=>by rw[zrE];exact h.fz i⟩
theorem Tri.set2(h:Tri w bk a b c)(x:Int):Tri (w.setCell ⟨bk,2,none⟩ (.int .i64 x)) bk a b x :=
 ⟨by rw[zaX];exact h.lt,by rw[zrc _ _ _ _ (by simp)];exact h.c0,by rw[zrc _ _ _ _ (by simp)];exact h.c1,zrD _ _ _ h.c2,fun i=>by rw[zrE];exact h.fz i⟩
theorem Jh(w:World)(a b c:Int)(t:TypeId):Tri (w.alloc (.cells #[a,b,c] t)) w.heap.size a b c:=by
 obtain⟨x0,x1,x2,x3⟩:=xA w (.int .i64 a) (.int .i64 b) (.int .i64 c) t;exact⟨by simp,x0,x1,x2,x3⟩
end
theorem zlp(a b c:Value)(w:World):(Instr.index 264 (.agg #[a,b,c]) (.int .i64 0)).run prog w=.ok a w:=by kernel_rfl
theorem zpq(a b c:Value)(w:World):(Instr.index 264 (.agg #[a,b,c]) (.int .i64 1)).run prog w=.ok b w:=by kernel_rfl
theorem zmp(a b c:Value)(w:World):(Instr.index 264 (.agg #[a,b,c]) (.int .i64 2)).run prog w=.ok c w:=by kernel_rfl
def zcO(B s b wk dm:Nat)(F:FuncId)(op:Bool)(vars:Nat)(room:Int)(d:Nat):Prop :=
 ∀(ns:List Nd) (m:List (Nd × Int)) (k:Nd) (O:Nat->Prop) (w:World),WS B w s b wk dm O F op vars room ns m->yX ns k->24<=zg ns k+d->((cnt ns+2^rk vars ns k:Nat):Int)<=room+1->ns.length+2^rk vars ns k<=90000->m.length+2^rk vars ns k<=90000 ->
  zC 204 #[.pointer (some wk),k.val] w (Xg B s b wk dm O F op vars room (zu d op ns m k) w)
theorem zqZ{d:Nat}{op:Bool}{ns:List Nd}{m:List (Nd × Int)}{k:Nd}(hk:qP op k=none)(hn:look m k=none) :
  zu (d + 1) op ns m k=((yn (zu d op (zu d op ns m (loK ns k (zg ns k))).1 (zu d op ns m (loK ns k (zg ns k))).2.1 (hiK ns k (zg ns k))).1 (zg ns k) (zu d op ns m (loK ns k (zg ns k))).2.2 (zu d op (zu d op ns m (loK ns k (zg ns k))).1 (zu d op ns m (loK ns k (zg ns k))).2.1 (hiK ns k (zg ns k))).2.2).1,
   ZR (zu d op (zu d op ns m (loK ns k (zg ns k))).1 (zu d op ns m (loK ns k (zg ns k))).2.1 (hiK ns k (zg ns k))).2.1 k (yn (zu d op (zu d op ns m (loK ns k (zg ns k))).1 (zu d op ns m (loK ns k (zg ns k))).2.1 (hiK ns k (zg ns k))).1 (zg ns k) (zu d op ns m (loK ns k (zg ns k))).2.2 (zu d op (zu d op ns m (loK ns k (zg ns k))).1 (zu d op ns m (loK ns k (zg ns k))).2.1 (hiK ns k (zg ns k))).2.2).2,
   (yn (zu d op (zu d op ns m (loK ns k (zg ns k))).1 (zu d op ns m (loK ns k (zg ns k))).2.1 (hiK ns k (zg ns k))).1 (zg ns k) (zu d op ns m (loK ns k (zg ns k))).2.2 (zu d op (zu d op ns m (loK ns k (zg ns k))).1 (zu d op ns m (loK ns k (zg ns k))).2.1 (hiK ns k (zg ns k))).2.2).2):=by
 conv=>lhs;unfold zu
 rw[hk];simp only;rw[hn]
section
variable {B s b wk dm:Nat} {O:Nat->Prop} {F:FuncId} {op:Bool} {vars:Nat} {room:Int} {ns:List Nd} {m:List (Nd × Int)} {w:World} {k:Nd}
theorem zj3(hroom:room<=4000)(hF:Y9 F op)(d:Nat)(ih:zcO B s b wk dm F op vars room d)(h:WS B w s b wk dm O F op vars room ns m)(h3:yX ns k)(hd:24<=zg ns k+(d+1:Nat))(hlc:((cnt ns+2^rk vars ns k:Nat):Int)<=room+1)(hl:ns.length+2^rk vars ns k<=90000)(hm:m.length+2^rk vars ns k<=90000)
  (hk:qP op k=none) (hn:look m k=none) :
  zC 204 #[.pointer (some wk),k.val] w (Xg B s b wk dm O F op vars room (zu (d+1) op ns m k) w):=by
 have bq:=zr1 (n:=rk vars ns k);have b9:ns.length<=90000:=by omega
 have hr:=h.good.ranked;have hv:=XV hr h3 hk;have aR:=(QK hr k).1;have ay:=zgf h3 (by omega);have aP:=zpm hn;have bc:=zbZ h.good hv;obtain⟨l3,lt⟩:=zah hr h3 hv;obtain⟨g3,gt⟩:=zal hr h3 hv;have az:2^rk vars ns k=2^(rk vars ns k-1)+2^(rk vars ns k-1):=by
  have:1<=rk vars ns k:=by unfold rk;omega
  obtain⟨q,hq⟩:∃q,rk vars ns k=q+1:=⟨rk vars ns k-1,by omega⟩;rw[hq,zsR,zsU];omega
 have bf:=zr1 (n:=rk vars ns k-1);have p1:2^rk vars ns (loK ns k (zg ns k))<=2^(rk vars ns k-1):=zrt (by omega) (by unfold rk;omega);have i1:=Qw (op:=op) d ns m (loK ns k (zg ns k)) h.good h.memo l3 (by omega) (by omega);have V:=Qw (op:=op) (d+1) ns m k h.good h.memo h3 hd (by omega);rw[zqZ hk hn] at V ⊢;have C1:=ih ns m (loK ns k (zg ns k)) O;generalize zu d op ns m (loK ns k (zg ns k))=r1 at *;have g3':=g3.ext i1.ext;have gm:=Ke g3 i1.ext;have p2:2^rk vars r1.1 (hiK ns k (zg ns k))<=2^(rk vars ns k-1):=zrt (by omega) (by unfold rk;rw[gm];omega);have l1:=i1.len;have b5:=i1.cnt;have m1:=i1.mlen;have i2:=Qw (op:=op) d r1.1 r1.2.1 (hiK ns k (zg ns k)) i1.good i1.memo g3' (by rw[gm];omega) (by omega);have C2:=fun O'=>ih r1.1 r1.2.1 (hiK ns k (zg ns k)) O';generalize zu d op r1.1 r1.2.1 (hiK ns k (zg ns k))=r2 at *;have l2:=i2.len;have b6:=i2.cnt;have m2:=i2.mlen;have h1':=i2.ext.has _ i1.has;have t1':za r2.1 r1.2.2=za r1.1 r1.2.2:=i2.ext.top _ i1.has;have i3:=YK i2.good (v:=zg ns k) (l:=r1.2.2) (h:=r2.2.2) (by omega) aR hv bc h1' i2.has (by rw[t1'];have:=i1.top;omega) (by have:=i2.top;rw[gm] at this;omega);have am:Hid (∀W,zB w W->zC 204 #[.pointer (some wk),(loK ns k (zg ns k)).val] W (Xg B s b wk dm O F op vars room r1 W)):=fun W hW=>C1 W (h.new hW) l3 (by omega) (by omega) (by omega) (by omega);have an:Hid (∀O' W,WS B W s b wk dm O' F op vars room r1.1 r1.2.1->zC 204 #[.pointer (some wk),(hiK ns k (zg ns k)).val] W (Xg B s b wk dm O' F op vars room r2 W)):=fun O' W hW=>C2 O' W hW g3' (by rw[gm];omega) (by omega) (by omega) (by omega);have aC:Hid (∀O' W,zt B W s b O' vars room r2.1->B<=W.heap.size->zC 201 #[.pointer (some s),(zg ns k),r1.2.2,r2.2.2] W fun e w'=>e=.returned (.tuple #[.int .i64 (yn r2.1 (zg ns k) r1.2.2 r2.2.2).2,.nilIface])/\∃O'',zt B w' s b O'' vars room (yn r2.1 (zg ns k) r1.2.2 r2.2.2).1/\zP O' O'' W w'):=fun O' W hW b7 =>
  zcd hW (by omega) (by omega) b7 (zg ns k) r1.2.2 r2.2.2 aR hv h1' i2.has (by rw[t1'];have:=i1.top;omega) (by have:=i2.top;rw[gm] at this;omega)
 generalize yn r2.1 (zg ns k) r1.2.2 r2.2.2=r3 at *;have bh:=zH i2;have aq:=zH i3;have U:=zH V;have ba:r2.2.1.length<=90000:=by omega
 clear C1 C2 i1 i2 i3 V l3 lt g3 gt az bf p1 g3' gm p2 l1 m1 l2 m2 b5 b6 h1' t1';have HW:=zH h;have H3:=zH h3;have c0:=h.work.c0;have c1:=h.work.c1;have c2:=h.work.c2;have wl:=h.work.lt;have sl:=h.space.slt;have s0:=h.space.c0;have HL:Hid (∀W,zB w W->(Instr.lookup 337 (.map (some dm)) (.agg #[k.v,k.l,k.h]) true).run prog W=.ok (.tuple #[(0:Int),false]) W):=fun W hW=>by
  obtain⟨D,hD,hR⟩:=(h.work.new hW).hmap;exact zhB hD hR ay aP
 have HK:Hid (∀W,zR F #[k.val] W (.tuple #[(0:Int),false])):=fun W=>by
  have:=hF.does k W;rw[hk] at this;exact this
 have HT:Hid (∀(x:Int) (W:World),I64 x->zB w W->zC 60 #[.pointer (some b),.int .i64 x] W fun e w'=>e=.returned (.int .i64 (za ns x))/\W=w'):=fun x W hx hW=>zaw (h.space.new hW) x hx (by omega);have af:Hid (∀(x:Int) (W:World),I64 x->zB w W->zR 234 #[.pointer (some s),.int .i64 x,(zg ns k)] W (.tuple #[.int .i64 (loS ns x (zg ns k)),.int .i64 (hiS ns x (zg ns k))])):=fun x W hx hW=>zjg (h.space.new hW) (by omega) x _ hx hv;have aw:=hF.enters;have ax:=@znC prog;have ae:=zH ay;have aJ:zg ns k=min (min (za ns k.v) (za ns k.l)) (za ns k.h):=rfl;have aZ:=zH aJ;clear h h3 ih hF hk aP hn ay aJ hd;have hb:=below_new w (.cells #[k.v,k.l,k.h] 264);obtain⟨x0,x1,x2,-⟩:=xA w (.int .i64 k.v) (.int .i64 k.l) (.int .i64 k.h) 264;have d1:=(hb.cell (p:=⟨wk,1,none⟩) wl).trans c1;have bl:w.heap.size<(w.alloc (.cells #[k.v,k.l,k.h] 264)).heap.size:=by simp
 have bn:=hb.size;have bg:wk<(w.alloc (.cells #[k.v,k.l,k.h] 264)).heap.size:=by omega
 have TB:=zH (Jh w k.v k.l k.h 264);unfold Nd.val at HK ⊢;go_enter func204,ntmps204;go_wp2_with fail;have HB:=zH hb;clear hb;generalize (w.alloc (.cells #[k.v,k.l,k.h] 264))=W1 at *;have e0:W1.drew.cell? ⟨wk,1,none⟩=some (.func (.func F) #[] #[]):=d1;have f0:W1.drew.cell? w.heap.size=some (.int .i64 k.v):=x0;have f1:W1.drew.cell? ⟨w.heap.size,1,none⟩=some (.int .i64 k.l):=x1;have f2:W1.drew.cell? ⟨w.heap.size,2,none⟩=some (.int .i64 k.h):=x2;go_region_held3 (fun w'=>w'.cell? ⟨wk,1,none⟩=some (.func (.func F) #[] #[])/\w'.cell? w.heap.size=some (.int .i64 k.v)/\w'.cell? ⟨w.heap.size,1,none⟩=some (.int .i64 k.l)/\w'.cell? ⟨w.heap.size,2,none⟩=some (.int .i64 k.h)) (first|exact⟨e0,f0,f1,f2⟩|exact⟨(y.cell (p:=⟨wk,1,none⟩) bg).trans e0,(y.cell (p:=w) bl).trans f0,(y.cell (p:=⟨w.heap.size,1,none⟩) bl).trans f1,(y.cell (p:=⟨w.heap.size,2,none⟩) bl).trans f2⟩)
  (first|(with_reducible refine(HK.out _).mono ?_;rintro e w2 ⟨rfl,y⟩))
 have ai:zB w w2:=(HB.out.drew).trans (y.mono HB.out.size);have g0:w2.drew.cell? w.heap.size=some (.int .i64 k.v):=(y.cell (p:=w) bl).trans f0;have g1:w2.drew.cell? ⟨w.heap.size,1,none⟩=some (.int .i64 k.l):=(y.cell (p:=⟨w.heap.size,1,none⟩) bl).trans f1;have g2:w2.drew.cell? ⟨w.heap.size,2,none⟩=some (.int .i64 k.h):=(y.cell (p:=⟨w.heap.size,2,none⟩) bl).trans f2;have gm:w2.drew.cell? ⟨wk,2,none⟩=some (.map (some dm)):=(ai.cell (p:=⟨wk,2,none⟩) wl).trans c2;have a8:=HL.out _ ai.drew;have b4:w.heap.size<w2.heap.size:=zc6 bl y.size;have aH:Hid (Tri w2.drew w.heap.size k.v k.l k.h):=((TB.out.new zF.drew).new y).new zF.drew;clear TB;clear e0 f0 f1 f2 HK HL d1 x0 x1 x2 aw y HB;go_wp2_with fail;go_region_held3 (fun w'=>w'.cell? ⟨wk,2,none⟩=some (.map (some dm))/\w'.cell? w.heap.size=some (.int .i64 k.v)/\w'.cell? ⟨w.heap.size,1,none⟩=some (.int .i64 k.l)/\w'.cell? ⟨w.heap.size,2,none⟩=some (.int .i64 k.h)) (exact⟨gm,g0,g1,g2⟩) (first|fail);clear a8;have ac:=zH ai.drew;have ah:w.heap.size<w2.drew.heap.size:=b4;clear ai;generalize w2.drew=W3 at *;have SC:Hid (∀X,zB W3 X->(X.cell? wk=some (.pointer (some s))/\X.cell? s=some (.pointer (some b))/\X.cell? w.heap.size=some (.int .i64 k.v)/\X.cell? ⟨w.heap.size,1,none⟩=some (.int .i64 k.l)/\X.cell? ⟨w.heap.size,2,none⟩=some (.int .i64 k.h))):=fun X hX =>
  ⟨((zT ac.out hX).cell (p:=wk) wl).trans c0,((zT ac.out hX).cell (p:=s) sl).trans s0,(hX.cell (p:=w) ah).trans g0,(hX.cell (p:=⟨w.heap.size,1,none⟩) ah).trans g1,(hX.cell (p:=⟨w.heap.size,2,none⟩) ah).trans g2⟩
 have D0:zB W3 W3.drew:=zF.drew;have T0:=ae.out.1;have T1:=ae.out.2.1;have T2:=ae.out.2.2;clear g0 g1 g2 gm;go_wp2_with fail;go_region_held3 (fun X=>X.cell? wk=some (.pointer (some s))/\X.cell? s=some (.pointer (some b))/\X.cell? w.heap.size=some (.int .i64 k.v)/\X.cell? ⟨w.heap.size,1,none⟩=some (.int .i64 k.l)/\X.cell? ⟨w.heap.size,2,none⟩=some (.int .i64 k.h)) (exact SC.out _ D0)
  (first|(go_at_call 60;with_reducible refine(HT.out _ _ (by first|exact T0|exact T1|exact T2) ac.out.drew).mono ?_;rintro e wz ⟨rfl,rfl⟩))
 have aO:min (za ns k.v) (min (za ns k.l) (za ns k.h))=zg ns k:=by unfold zg;omega
 rw[aO];clear aO ax HT aZ;have aB:=zH ac.out.drew;have ag:Hid (∀X,Below W3.drew.heap.size W3.drew X->X.cell? wk=some (.pointer (some s))/\Tri X w.heap.size k.v k.l k.h):=fun X hX=>⟨((zT aB.out hX).cell (p:=wk) wl).trans c0,(aH.out.new zF.drew).new hX⟩;generalize za ns k.v=tv at *;generalize za ns k.l=tl at *;generalize za ns k.h=th at *;have bi:w.heap.size<W3.drew.heap.size:=ah;clear SC D0 aH;generalize W3.drew=W4 at *;obtain⟨g0,g1⟩:=ag.out _ (zf0 _ W4);have q0:=g1.c0;have q1:=g1.c1;have q2:=g1.c2;have zz:(W4.alloc (.cells #[(0:Int),(0:Int),(0:Int)] 264)).heap.size=W4.heap.size+1:=by simp
 have TL:=zH ((Jh W4 0 0 0 264).new (below_new _ (.cells #[(0:Int),(0:Int),(0:Int)] 264)));have au:=Jh (W4.alloc (.cells #[(0:Int),(0:Int),(0:Int)] 264)) 0 0 0 264;rw[zz] at au;have TH:=zH au;have B5:Hid (zB W4 ((W4.alloc (.cells #[(0:Int),(0:Int),(0:Int)] 264)).alloc (.cells #[(0:Int),(0:Int),(0:Int)] 264))):=(below_new W4 _).alloc (below_new W4 _).size _;clear au zz;generalize zg ns k=v at *;have KV:=zH T0;have KL:=zH T1;have KH:=zH T2;clear T0 T1 T2;go_wp2_with fail;go_loopw [73] (fun i wr=>zB W4 wr/\(
   (i=.int .i64 0/\Tri wr W4.heap.size 0 0 0/\Tri wr (W4.heap.size+1) 0 0 0) \/
   (i=.int .i64 1/\Tri wr W4.heap.size (loS ns k.v v) 0 0/\Tri wr (W4.heap.size+1) (hiS ns k.v v) 0 0) \/
   (i=.int .i64 2/\Tri wr W4.heap.size (loS ns k.v v) (loS ns k.l v) 0/\Tri wr (W4.heap.size+1) (hiS ns k.v v) (hiS ns k.l v) 0) \/
   (i=.int .i64 3/\Tri wr W4.heap.size (loS ns k.v v) (loS ns k.l v) (loS ns k.h v)/\Tri wr (W4.heap.size + 1) (hiS ns k.v v) (hiS ns k.l v) (hiS ns k.h v))))
  (fun i _=>3-(intOf i).toNat)
 case atStart=>exact⟨B5.out,.inl ⟨rfl,TL.out,TH.out⟩⟩
 case round =>
  obtain⟨a5,hrel⟩:=hrel;obtain⟨y0,-⟩:=ag.out _ a5;have K:=zT aB.out a5;have Y:=a5.size;have ad:=zH a5;clear TL TH B5 a5;rcases hrel with ⟨rfl,t1,t2⟩|⟨rfl,t1,t2⟩|⟨rfl,t1,t2⟩|⟨rfl,t1,t2⟩
  ·have HC:=zH (af.out k.v wr KV.out K);generalize loS ns k.v v=lo at *;generalize hiS ns k.v v=hi at *;have T1':=zH t1;have T2':=zH t2;clear t1 t2 K;have a7:=zlp;go_wp2_with fail;clear a7;refine HC.out.mono ?_;rintro e w5 ⟨rfl,o⟩;have u1:=T1'.out.new o;have u2:=T2'.out.new o;have z0:=u1.c0;have z1:=u1.fz 0;have u1':=u1.set0 lo;have u2':=(u2.other (bk':=W4.heap.size) (i:=0) (.int .i64 lo) (by omega));have z2:=u2'.c0;have z3:=u2'.fz 0;have R:=ad.out.trans (o.mono Y);have U1:=zH (u1'.other (bk':=W4.heap.size+1) (i:=0) (.int .i64 hi) (by omega));have U2:=zH (u2'.set0 hi);have Z:Hid (zB W4 ((w5.setCell W4 (.int .i64 lo)).setCell ⟨W4.heap.size+1,0,none⟩ (.int .i64 hi))):=(R.setCell zN _).setCell (zrr _) _;clear u1 u2 u1' u2' HC o R;go_wp2;go_roundw
   case rel=>exact⟨Z.out,.inr (.inl ⟨rfl,U1.out,U2.out⟩)⟩
   case measure=>simp[intOf]
  ·have HC:=zH (af.out k.l wr KL.out K);generalize loS ns k.l v=lo at *;generalize hiS ns k.l v=hi at *;have T1':=zH t1;have T2':=zH t2;clear t1 t2 K;have a7:=zpq;go_wp2_with fail;clear a7;refine HC.out.mono ?_;rintro e w5 ⟨rfl,o⟩;have u1:=T1'.out.new o;have u2:=T2'.out.new o;have z0:=u1.c1;have z1:=u1.fz 1;have u1':=u1.set1 lo;have u2':=(u2.other (bk':=W4.heap.size) (i:=1) (.int .i64 lo) (by omega));have z2:=u2'.c1;have z3:=u2'.fz 1;have R:=ad.out.trans (o.mono Y);have U1:=zH (u1'.other (bk':=W4.heap.size+1) (i:=1) (.int .i64 hi) (by omega));have U2:=zH (u2'.set1 hi);have Z:Hid (zB W4 ((w5.setCell ⟨W4.heap.size,1,none⟩ (.int .i64 lo)).setCell ⟨W4.heap.size+1,1,none⟩ (.int .i64 hi))):=(R.setCell zN _).setCell (zrr _) _;clear u1 u2 u1' u2' HC o R;go_wp2;go_roundw
   case rel=>exact⟨Z.out,.inr (.inr (.inl ⟨rfl,U1.out,U2.out⟩))⟩
   case measure=>simp[intOf]
  ·have HC:=zH (af.out k.h wr KH.out K);generalize loS ns k.h v=lo at *;generalize hiS ns k.h v=hi at *;have T1':=zH t1;have T2':=zH t2;clear t1 t2 K;have a7:=zmp;go_wp2_with fail;clear a7;refine HC.out.mono ?_;rintro e w5 ⟨rfl,o⟩;have u1:=T1'.out.new o;have u2:=T2'.out.new o;have z0:=u1.c2;have z1:=u1.fz 2;have u1':=u1.set2 lo;have u2':=(u2.other (bk':=W4.heap.size) (i:=2) (.int .i64 lo) (by omega));have z2:=u2'.c2;have z3:=u2'.fz 2;have R:=ad.out.trans (o.mono Y);have U1:=zH (u1'.other (bk':=W4.heap.size+1) (i:=2) (.int .i64 hi) (by omega));have U2:=zH (u2'.set2 hi);have Z:Hid (zB W4 ((w5.setCell ⟨W4.heap.size,2,none⟩ (.int .i64 lo)).setCell ⟨W4.heap.size+1,2,none⟩ (.int .i64 hi))):=(R.setCell zN _).setCell (zrr _) _;clear u1 u2 u1' u2' HC o R;go_wp2;go_roundw
   case rel=>exact⟨Z.out,.inr (.inr (.inr ⟨rfl,U1.out,U2.out⟩))⟩
   case measure=>simp[intOf]
  ·have aM:(loK ns k v).val=.agg #[(loS ns k.v v),(loS ns k.l v),.int .i64 (loS ns k.h v)]:=rfl;have aL:(hiK ns k v).val=.agg #[(hiS ns k.v v),(hiS ns k.l v),.int .i64 (hiS ns k.h v)]:=rfl;rw[aM] at am;rw[aL] at an;clear aM aL af;generalize loS ns k.v v=la at *;generalize loS ns k.l v=lb at *;generalize loS ns k.h v=lc at *;generalize hiS ns k.v v=ha at *;generalize hiS ns k.l v=hb at *;generalize hiS ns k.h v=hc at *;have TK:=zH (ag.out _ ad.out).2;have z0:=t1.c0;have z1:=t1.c1;have z2:=t1.c2;have aE:=zH t2;have HC1':=zH (am.out _ K);have aX:=zH K;have OO:=zH (fun j (ho:O j)=>(HW.out.space.own j ho).2);have dl:=HW.out.work.dlt;clear am t1 t2 K ag;go_wp2_with fail;refine HC1'.out.mono ?_;rintro e w7 ⟨rfl,O1,bd,aa⟩;have bo:=aa.size;have ak:Tri w7 (W4.heap.size+1) ha hb hc:=aE.out.kept aa.kept (fun ho=>ho.elim (fun h=>by have:=OO.out _ h;omega) (fun h=>by omega));have aU:Tri w7 w.heap.size k.v k.l k.h:=TK.out.kept aa.kept (fun ho=>ho.elim (fun h=>by have:=OO.out _ h;omega) (fun h=>by omega));have z3:=ak.c0;have z4:=ak.c1;have z5:=ak.c2;have HC2':=zH (an.out O1 w7 bd);have aF:=zH aU;have ar:=zH aa;clear HC1' an aE TK ak aU aa z0 z1 z2;go_wp2_with fail;refine HC2'.out.mono ?_;rintro e w8 ⟨rfl,O2,a9,ab⟩;have bp:=ab.size;have bj:dm<w7.heap.size:=by omega
   have aT:¬O1 w.heap.size:=ar.out.beside (by omega) (fun h=>by have:=OO.out _ h;omega);have aV:Tri w8 w.heap.size k.v k.l k.h:=aF.out.kept ab.kept (fun ho=>ho.elim aT (fun h=>by omega));have be:¬O2 w.heap.size:=ab.beside (by omega) aT;have y8:=a9.work.c0;have HC3':=zH (aC.out O2 w8 a9.space a9.hB);have a4:=zH aV;have aD:=zH (ar.out.trans ab);have aG:=zH a9;clear HC2' aC aF ar aV ab a9 z3 z4 z5;go_wp2_with fail;refine HC3'.out.mono ?_;rintro e w9 ⟨rfl,O3,aQ,aj⟩;have J:=aG.out.moved aQ aj aq.out.good aq.out.ext;have aW:Tri w9 w.heap.size k.v k.l k.h:=a4.out.kept aj.kept be;have aS:=aD.out.trans (MM.of_moves (dm:=dm) aj);have u:=J.new (zf0 _ w9).drew;obtain⟨D,hD,hR⟩:=u.work.hmap;obtain⟨aA,D',a8,aI,aK,hK⟩:=zoD hD hR (by omega) ae.out (x:=r3.2) aq.out.i64;have a0:w9.drew.cell? ⟨wk,2,none⟩=some (.map (some dm)):=J.work.c2;have C:=aW.new (zf0 _ w9).drew;have a1:=C.c0;have a2:=C.c1;have a3:=C.c2;have bb:wk≠dm:=fun e=>J.work.d e.symm;have av:w.heap.size≠dm:=by omega
   have b8:=u.work.lt;have b0:=(hK.cell (a:=⟨wk,2,none⟩) b8 bb).trans a0;have M:=C.kept hK av;have b1:=M.c0;have b2:=M.c1;have b3:=M.c2;have a6:WS B aA s b wk dm O3 F op vars room r3.1 (ZR r2.2.1 k r3.2) :=
    ⟨u.space.kept hK (fun j ho e=>J.o2 (e▸ho)) J.sd,u.work.turned hK aI aK,U.out.good,U.out.memo,J.o1,J.o2,J.sd,zf1 u.hB hK.size⟩
   have aN:MM O O3 dm w aA:=by
    have h1:MM O O3 dm w w9:=(MM.of_below aX.out).trans aS;have h2:MM O3 O3 dm w9 aA:=⟨(zc.refl _ w9).drew.andThen (hK.mono (fun j hj=>.inr hj)) (fun j hj _=>hj),fun _ h=>.inl h,fun j hj=>(Classical.em (qj w9 j)).imp (fun c=>qj.kept (w:=w9.drew) c hK (fun e=>J.o2 (e▸hj))) (fun n=>⟨hj,n⟩)⟩;exact h1.trans h2
   have ao:=zH a6;have aY:=zH aN;clear HC3' a4 aD aG aQ aj J aW aS u hD hR aI aK hK C M a6 aN U y8;go_wp2_with fail;go_region_held3 (fun X=>X.cell? ⟨wk,2,none⟩=some (.map (some dm))/\X.cell? w.heap.size=some (.int .i64 k.v)/\X.cell? ⟨w.heap.size,1,none⟩=some (.int .i64 k.l)/\X.cell? ⟨w.heap.size,2,none⟩=some (.int .i64 k.h)) (first|exact⟨a0,a1,a2,a3⟩|exact⟨b0,b1,b2,b3⟩) (first|fail);go_wp2;go_ret2;exact⟨rfl,O3,ao.out,aY.out⟩
theorem zeX(hroom:room<=4000)(hF:Y9 F op):∀d,zcO B s b wk dm F op vars room d
 |0=>fun ns m k O w h h3 hd j hl hm=>by
  unfold zu;cases e:qP op k with
  |none=>have:=XV h.good.ranked h3 e;omega
  |some x=>exact zdH h hF x e
 |d+1=>fun ns m k O w h h3 hd j hl hm=>by
  cases e:qP op k with
  |some x =>
   have:zu (d+1) op ns m k=(ns,m,x):=by unfold zu;rw[e]
   rw[this];exact zdH h hF x e
  |none =>
   cases e2:look m k with
   |some x =>
    have:zu (d+1) op ns m k=(ns,m,x):=by unfold zu;rw[e];simp only;rw[e2]
    rw[this];exact zjm h hF x e (zd9 e2)
   |none=>exact zj3 hroom hF d (zeX hroom hF d) h h3 hd j hl hm e e2
end
end Bd
