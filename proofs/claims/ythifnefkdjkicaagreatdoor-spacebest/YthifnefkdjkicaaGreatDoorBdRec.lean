import Derived.Test.YthifnefkdjkicaaGreatDoorBdAt
namespace Go.Proofs.YthifnefkdjkicaaGreatDoor
set_option maxHeartbeats 4000000
set_option maxRecDepth 100000
namespace Bd
open Go.RowKit Go.Maps
section
variable {B s b:Nat} {O:Nat->Prop} {vars:Nat} {room:Int} {ns:List Nd} {w:World}
theorem za4(hS:zx B w s b O vars room ns)(hl:ns.length<=90000)(hroom:(cnt ns:Int)<room)(hB:B<=w.heap.size)(v l h:Int)(hv0:0<=v)(hv1:v<24)(hl1:zj ns l=true)(hh1:zj ns h=true)(tl:v<za ns l)(th:v<za ns h) :
  zC 175 #[.pointer (some s),v,l,h] w fun e w'=>e=.returned (.tuple #[.int .i64 (yi ns v l h).2,.nilIface])/\∃O',zx B w' s b O' vars room (yi ns v l h).1/\zV O O' w w':=by
 have c0:=hS.c0
 by_cases e:l=h
 ·have hn:yi ns v l h=(ns,l):=by unfold yi;rw[zA2 e]
  rw[hn];subst e;have HS:=zH hS;clear hS hl1 hh1 tl th hn;go_enter Tryz.func175,Tryz.ntmps175;go_wp2;go_ret2;exact⟨rfl,O,HS.out,zV.refl _ _⟩
 ·have hn:yi ns v l h=Zp ns ⟨v,l,h⟩:=by unfold yi;rw[zA1 e]
  rw[hn];have HM:=zH (zj6 hS hl hroom hB ⟨v,l,h⟩ ⟨⟨by show _<=v;omega,by show v<=_;omega⟩,xX hl1 (by omega),xX hh1 (by omega)⟩ ⟨hv0,hv1,hl1,hh1,tl,th⟩);unfold Nd.val at HM;clear hS hl1 hh1 tl th hn;generalize Zp ns ⟨v,l,h⟩=r at *;go_enter Tryz.func175,Tryz.ntmps175;go_wp2_with fail;refine HM.out.mono ?_;rintro e w' ⟨rfl,hO⟩;go_wp2;go_ret2;exact⟨rfl,hO⟩
theorem zh5(hS:zx B w s b O vars room ns)(hl:ns.length<=90000)(h v:Int)(hi:I64 h)(hv1:v<24) :
  zR 210 #[.pointer (some s),h,v] w (.tuple #[(loS ns h v),(hiS ns h v)]):=by
 have c0:=hS.c0;have HG:=zH (Jc hS h hi hl);have y:=hS.slt
 by_cases ht:za ns h=24
 ·have e1:loS ns h v=h:=by unfold loS;rw[zA1 (by omega)]
  have e2:hiS ns h v=h:=by unfold hiS;rw[zA1 (by omega)]
  rw[e1,e2];rw[show decide (za ns h≠24)=false by simp[ht]] at HG;generalize zt ns h=gn at *;obtain⟨gv,gl,gh⟩:=gn;unfold Nd.val at HG;clear hS e1 e2 ht;go_enter Tryz.func210,Tryz.ntmps210;go_wp2_with fail;refine HG.out.mono ?_;rintro e w1 ⟨rfl,j⟩;have o:=j.alloc j.size (.cells #[gv,gl,gh] 250);clear HG;go_wp2;go_ret2;exact⟨rfl,o⟩
 ·rw[show decide (za ns h≠24)=true by simp[ht]] at HG;have p:(zt ns h).v=za ns h:=by
   obtain⟨h1,h2,h3,h4⟩:=xj ht;unfold zt;rw[zA1 ht];exact h3.symm
  have q:zt ns h=nd ns (pl h):=by unfold zt;rw[zA1 ht];rfl
  by_cases ev:za ns h=v
  ·have e1:loS ns h v=(zt ns h).l:=by unfold loS;rw[zA2 ev,q]
   have e2:hiS ns h v=(zt ns h).h:=by unfold hiS;rw[zA2 ev,q]
   rw[e1,e2];rw[ev] at p;generalize zt ns h=gn at *;obtain⟨gv,gl,gh⟩:=gn;simp only at p;subst p;unfold Nd.val at HG;clear hS e1 e2 ht ev q;go_enter Tryz.func210,Tryz.ntmps210;go_wp2_with fail;refine HG.out.mono ?_;rintro e w1 ⟨rfl,j⟩;have o:=j.alloc j.size (.cells #[gv,gl,gh] 250);obtain⟨x0,x1,x2,-⟩:=xr w1 (.int .i64 gv) (.int .i64 gl) (.int .i64 gh) 250;clear HG;go_wp2_with fail;go_quiet (fail);go_wp2;go_ret2;exact⟨rfl,o.trans (yV _ _ _)⟩
  ·have e1:loS ns h v=h:=by unfold loS;rw[zA1 ev]
   have e2:hiS ns h v=h:=by unfold hiS;rw[zA1 ev]
   rw[e1,e2];have u:¬(zt ns h).v=v:=by rw[p];exact ev
   generalize zt ns h=gn at *;obtain⟨gv,gl,gh⟩:=gn;simp only at u;unfold Nd.val at HG;clear hS e1 e2 ht ev q p;go_enter Tryz.func210,Tryz.ntmps210;go_wp2_with fail;refine HG.out.mono ?_;rintro e w1 ⟨rfl,j⟩;have o:=j.alloc j.size (.cells #[gv,gl,gh] 250);obtain⟨x0,x1,x2,-⟩:=xr w1 (.int .i64 gv) (.int .i64 gl) (.int .i64 gh) 250;clear HG;go_wp2;go_ret2;exact⟨rfl,o⟩
theorem zhu(hS:zx B w s b O vars room ns)(hl:ns.length<=90000)(bf:Nat){cp:Nat}(fs:List Int)(hF:ZC w bf fs)(hfl:fs.length<=1000)(hall:∀x∈fs,zj ns x=true) :
  zC 177 #[.pointer (some s),.slice (some bf) fs.length cp] w fun e w'=>e=.returned .nilIface/\w=w':=by
 have c0:=hS.c0;have HS:=zH hS;have HF:=zH hF;have HA:=zH hall;clear hS hF hall;go_enter Tryz.func177,Tryz.ntmps177;go_wp2_with fail;go_loop [9] (fun i=>∃k:Nat,k<=fs.length/\i=.int .i64 k) (fun i=>fs.length-(intOf i).toNat)
 case atStart=>exact⟨0,Nat.zero_le _,rfl⟩
 case round =>
  obtain⟨k,hk,rfl⟩:=hrel
  by_cases hlt:k<fs.length
  ·have ck:=HF.out.cells k hlt;have HH:=zH (zdp HS.out fs[k] (HF.out.ok _ (List.getElem_mem hlt)) hl);rw[HA.out _ (List.getElem_mem hlt)] at HH;generalize fs[k]=x at *;go_wp2_with fail;refine HH.out.mono ?_;rintro e w' ⟨rfl,rfl⟩;clear HH;go_wp2;go_round
   case rel=>exact⟨k+1,by omega,by go_num⟩
   case measure=>simp[intOf];omega
  ·go_wp2;go_ret;exact⟨rfl,rfl⟩
theorem ziL(hS:zx B w s b O vars room ns)(v:Int)(h0:0<=v)(h1:v<(vars:Int)) :
  zC 174 #[.pointer (some s),v] w fun e w'=>e=.returned .nilIface/\w=w':=by
 have c1:=hS.c1;clear hS;go_enter Tryz.func174,Tryz.ntmps174;go_wp2
 all_goals
  go_ret;exact⟨rfl,rfl⟩
end
end Bd
namespace Bd
open Go.RowKit Go.Maps
theorem zch:(242:TypeId)<Tryz.prog.types.size:=of_decide_eq_true (by kernel_rfl)
theorem zkx:(match Tryz.prog.underlying 242 with|some (.array _ _)|some (.struct _)=>true|_=>false)=true:=by rw[Tryz.underlying242]
theorem zbv:Keyed Tryz.prog 242:=Keyed.of_law (deep_law_laid JJ (m:=2) (by omega) zch (by kernel_rfl) zkx)
theorem zoC:Tryz.prog.keyType 242=true:=by kernel_rfl
theorem zcb:Tryz.prog.cellsOf 242=3:=by kernel_rfl
theorem zaq(n:Nd)(h:n.Ok):keyOf Tryz.prog 242 n.val=some n.lit:=by
 have hf:n.val.formed Tryz.prog 242=true:=by simp[Value.formed,Tryz.underlying242,zcb,Nd.val]
 unfold keyOf;rw[Tryz.underlying242];simp only[zoC,hf,Bool.and_self,if_true];obtain⟨d,hd⟩:∃d,Tryz.prog.types.size+1=d+2:=⟨Tryz.prog.types.size-1,by have:0<Tryz.prog.types.size:=Nat.lt_of_le_of_lt (Nat.zero_le _) zch;omega⟩;rw[hd];unfold Program.keyLits;rw[Tryz.underlying242];have hc:n.val.cells.toList=[.int .i64 n.v,.int .i64 n.l,.int .i64 n.h]:=rfl;rw[hc];simp[zcb,JE,List.range,List.range.loop,YX d h.1,YX d h.2.1,YX d h.2.2,Nd.lit]
theorem Rep.put_over{α β:Type}[DecidableEq α]{ok:α->Prop}{kl:α->Lit}{el:β->DataW Unit}{D:DataW Unit}{L:List (α × β)}(h:Rep ok kl el D L)(inj:∀a b,ok a->ok b->kl a=kl b->a=b)(key:∀a,WideAt.IsKeyLit (kl a)){a:α}(b:β)(hm:a∈L.map Prod.fst) :
  Rep ok kl el (D.put (kl a) (el b)) (L.map fun q=>if q.1=a then (q.1,b) else q):=by
 have hk:(L.map fun q=>if q.1=a then (q.1,b) else q).map Prod.fst=L.map Prod.fst:=by
  rw[List.map_map];apply List.map_congr_left;intro q _;simp only[Function.comp];split<;>rfl
 obtain⟨p0,o,rfl⟩:=List.mem_map.1 hm;have ha:=h.oks p0 o;have j:∀c,ok c->c≠p0.1->kl c≠kl p0.1:=fun c hc p e=>p (inj c p0.1 hc ha e);refine⟨h.tidy.put (key _) _,?_,?_,?_,?_,?_,by rw[hk];exact h.nodup⟩
 ·rw[size_put h.tidy,(h.has p0.1 ha).2 hm];simp[h.size]
 ·intro q hq;obtain⟨r,hr,rfl⟩:=List.mem_map.1 hq;have:=h.oks r hr;split<;>exact this
 ·intro c hc;rw[hk]
  by_cases e:c=p0.1
  ·rw[e,has_put_same h.tidy.isMap (key _)];simp only[true_iff];exact hm
  ·rw[has_put_other (j c hc e)];exact h.has c hc
 ·intro x hx;have u:∃r∈L,x=kl r.1:=by
   by_cases e:x=kl p0.1
   ·exact⟨p0,o,e⟩
   ·rw[has_put_other e] at hx;exact h.all x hx
  obtain⟨r,hr,e⟩:=u;exact⟨_,List.mem_map_of_mem hr,by rw[e];split<;>rfl⟩
 ·intro q hq z;obtain⟨r,hr,rfl⟩:=List.mem_map.1 hq
  by_cases e:r.1=p0.1
  ·rw[zA2 e];show (D.put (kl p0.1) (el b)).atKey (kl r.1) z=el b;rw[e];exact atKey_put_same h.tidy.isMap (key _) _ _
  ·rw[zA1 e,atKey_put_other (j r.1 (h.oks r hr) e)];exact h.at' r hr z
section
variable {w:World} {bm n:Nat} {D:DataW Unit} {L:List (Nd × Int)}
theorem zma(hD:w.ownsMap Tryz.prog 242 (plainElem Tryz.prog 3) bm n D)(hR:Rep Nd.Ok Nd.lit (fun x:Int=>.lit (.int .i64 x)) D L){p:Nd × Int}(hp:p∈L) :
  (Instr.lookup 317 (.map (some bm)) (.agg #[p.1.v,p.1.l,p.1.h]) true).run Tryz.prog w=.ok (.tuple #[p.2,true]) w:=by
 obtain⟨v,ps,j,hv⟩:=hD.look_ok zbv Tryz.underlying317 (K8 w) (zd:=.lit (.int .i64 0)) (zp:=[]) (YH ⟨by omega,by omega⟩) (zaq p.1 (hR.oks p hp));rw[hR.at' p hp] at hv;obtain⟨a,rfl,hz,-⟩:=plainElem_int_inv Tryz.underlying3 hv;rw[(hR.has p.1 (hR.oks p hp)).2 (List.mem_map_of_mem hp)] at j;simp at hz;rw[<-hz.1] at j;exact j
theorem zl1(hD:w.ownsMap Tryz.prog 242 (plainElem Tryz.prog 3) bm n D)(hR:Rep Nd.Ok Nd.lit (fun x:Int=>.lit (.int .i64 x)) D L){a:Nd}(ha:a.Ok)(hn:a∉L.map Prod.fst) :
  (Instr.lookup 317 (.map (some bm)) (.agg #[a.v,a.l,a.h]) true).run Tryz.prog w=.ok (.tuple #[(0:Int),false]) w:=by
 obtain⟨v,ps,j,hv⟩:=hD.look_ok zbv Tryz.underlying317 (K8 w) (zd:=.lit (.int .i64 0)) (zp:=[]) (YH ⟨by omega,by omega⟩) (zaq a ha);have hh:=hR.not ha hn;rw[atKey_of_not_has hh] at hv;obtain⟨c,rfl,hz,-⟩:=plainElem_int_inv Tryz.underlying3 hv;rw[hh] at j;simp at hz;rw[<-hz.1] at j;exact j
theorem znE(hD:w.ownsMap Tryz.prog 242 (plainElem Tryz.prog 3) bm L.length D)(hR:Rep Nd.Ok Nd.lit (fun x:Int=>.lit (.int .i64 x)) D L)(hl:L.length<1000000){a:Nd}(ha:a.Ok){x:Int}(hx:I64 x) :
  ∃w' D',(Instr.mapUpdate 317 (.map (some bm)) (.agg #[a.v,a.l,a.h]) (.int .i64 x)).run Tryz.prog w=.ok () w'/\w'.ownsMap Tryz.prog 242 (plainElem Tryz.prog 3) bm (Zw L a x).length D'/\Rep Nd.Ok Nd.lit (fun x:Int=>.lit (.int .i64 x)) D' (Zw L a x)/\zc (fun k=>k=bm) w w':=by
 obtain⟨w',j,h1,h2⟩:=hD.update zbv Tryz.underlying317 (by unfold maxLen;omega) (zaq a ha) (YH hx);have hR':Rep Nd.Ok Nd.lit (fun x:Int=>.lit (.int .i64 x)) (D.put a.lit (.lit (.int .i64 x))) (Zw L a x):=by
  unfold Zw
  by_cases hm:a∈L.map Prod.fst
  ·rw[zA2 hm];exact hR.put_over (fun _ _=>K4) zaf x hm
  ·rw[zA1 hm];exact hR.put (fun _ _=>K4) zaf ha hm x
 exact⟨w',_,j,hR'.size▸Qh h1,hR',zc.of_grown h2 (fun i h=>by cases h;rfl)⟩
end
structure xW(B:Nat)(w:World)(wk dm s:Nat)(F:FuncId)(m:List (Nd × Int)):Prop where
 lt:wk<w.heap.size
 c0:w.cell? wk=some (.pointer (some s))
 c1:w.cell? ⟨wk,1,none⟩=some (.func (.func F) #[] #[])
 c2:w.cell? ⟨wk,2,none⟩=some (.map (some dm))
 hmap:∃D,w.ownsMap Tryz.prog 242 (plainElem Tryz.prog 3) dm m.length D/\Rep Nd.Ok Nd.lit (fun x:Int=>.lit (.int .i64 x)) D m
 d:dm≠wk
 Bd:B<=dm
 Bw:B<=wk
section
variable {B wk dm s:Nat} {F:FuncId} {m m':List (Nd × Int)} {w w':World}
theorem xW.kept{S:Nat->Prop}(h:xW B w wk dm s F m)(hk:zc S w w')(h1:¬S wk)(h2:¬S dm):xW B w' wk dm s F m:=by
 obtain⟨D,hD,hR⟩:=h.hmap;exact⟨Nat.lt_of_lt_of_le h.lt hk.size,(hk.cell (a:=wk) h.lt h1).trans h.c0,(hk.cell (a:=⟨wk,1,none⟩) h.lt h1).trans h.c1,(hk.cell (a:=⟨wk,2,none⟩) h.lt h1).trans h.c2,⟨D,Z6 hD hk h2,hR⟩,h.d,h.Bd,h.Bw⟩
theorem xW.new(h:xW B w wk dm s F m)(hb:zB w w'):xW B w' wk dm s F m:=h.kept (zc.of_below hb (fun _=>False)) (fun h=>h) (fun h=>h)
theorem xW.dlt(h:xW B w wk dm s F m):dm<w.heap.size:=by obtain⟨D,hD,-⟩:=h.hmap;exact hD.lt
theorem xW.turned{D':DataW Unit}(h:xW B w wk dm s F m)(hk:zc (fun j=>j=dm) w w')(hD:w'.ownsMap Tryz.prog 242 (plainElem Tryz.prog 3) dm m'.length D')(hR:Rep Nd.Ok Nd.lit (fun x:Int=>.lit (.int .i64 x)) D' m'):xW B w' wk dm s F m':=by
 have hn:wk≠dm:=fun e=>h.d e.symm;exact⟨Nat.lt_of_lt_of_le h.lt hk.size,(hk.cell (a:=wk) h.lt hn).trans h.c0,(hk.cell (a:=⟨wk,1,none⟩) h.lt hn).trans h.c1,(hk.cell (a:=⟨wk,2,none⟩) h.lt hn).trans h.c2,⟨D',hD,hR⟩,h.d,h.Bd,h.Bw⟩
end
theorem zpm(s:Nat)(F:FuncId)(w:World)(B:Nat)(hB:B<=w.heap.size) :
  zC 178 #[.pointer (some s),.func (.func F) #[] #[]] w fun e w'=>e=.returned (.pointer (some ⟨w.heap.size+1,0,none⟩))/\xW B w' (w.heap.size+1) w.heap.size s F []/\zB w w':=by
 have j:=@run_makeMap Tryz.prog;have hE:xW B ((w.alloc (.map #[] 0)).alloc (.cells #[.pointer (some s),.func (.func F) #[] #[],.map (some w.heap.size)] 319)) (w.heap.size+1) w.heap.size s F []:=by
  have e1:(w.alloc (.map #[] 0)).heap.size=w.heap.size+1:=by simp
  have hm:((w.alloc (.map #[] 0)).alloc (.cells #[.pointer (some s),.func (.func F) #[] #[],.map (some w.heap.size)] 319)).ownsMap Tryz.prog 242 (plainElem (H:=Unit) Tryz.prog 3) w.heap.size 0 (.map []):=(World.ownsMap_made w _ _ _).alloc _;refine⟨by simp,?_,?_,?_,⟨_,hm,Rep.empty⟩,by omega,hB,by omega⟩
  ·rw[<-e1];simp
  ·rw[<-e1];simp
  ·rw[<-e1];simp
 have hb:zB w ((w.alloc (.map #[] 0)).alloc (.cells #[.pointer (some s),.func (.func F) #[] #[],.map (some w.heap.size)] 319)):=(below_new w _).alloc (below_new w _).size _;have HE:=zH hE;clear hE;go_enter Tryz.func178,Tryz.ntmps178;go_wp2;go_ret;exact⟨rfl,HE.out,hb⟩
theorem zmG(k:Nd)(w:World):zR 137 #[k.val] w (.tuple #[.int .i64 ((qL true k).getD 0),.bool (qL true k).isSome]):=by
 obtain⟨a,b,c⟩:=k;have hb:=below_new w (.cells #[a,b,c] 242);obtain⟨x0,x1,x2,-⟩:=xr w (.int .i64 a) (.int .i64 b) (.int .i64 c) 242;unfold Nd.val;show Calls _ _ _ _ fun e w'=>e=.returned (.tuple #[.int .i64 ((yA ⟨a,b,c⟩).getD 0),.bool (yA ⟨a,b,c⟩).isSome])/\_
 by_cases c1:a=1
 ·have hk:yA ⟨a,b,c⟩=some b:=by unfold yA;rw[zA2 (.inl c1)]
  rw[hk];clear hk;subst c1;go_enter Tryz.func137,Tryz.ntmps137;go_wp2;go_ret2;exact⟨rfl,hb⟩
 by_cases c2:b=c
 ·have hk:yA ⟨a,b,c⟩=some b:=by unfold yA;rw[zA2 (.inr c2)]
  rw[hk];clear hk;subst c2;go_enter Tryz.func137,Tryz.ntmps137;go_wp2;go_ret2;exact⟨rfl,hb⟩
 have q1:(a==1)=false:=by simpa using c1
 have q2:(b==c)=false:=by simpa using c2
 by_cases c3:a=0
 ·have hk:yA ⟨a,b,c⟩=some c:=by unfold yA;rw[zA1 (by simp[c1,c2]),zA2 c3]
  rw[hk];clear hk;subst c3;go_enter Tryz.func137,Tryz.ntmps137;go_wp2;go_ret2;exact⟨rfl,hb⟩
 have q3:(a==0)=false:=by simpa using c3
 by_cases c4:b=1
 ·by_cases c5:c=0
  ·have hk:yA ⟨a,b,c⟩=some a:=by unfold yA;rw[zA1 (by simp[c1,c2]),zA1 c3,zA2 ⟨c4,c5⟩]
   rw[hk];clear hk;subst c4 c5;go_enter Tryz.func137,Tryz.ntmps137;go_wp2;go_ret2;exact⟨rfl,hb⟩
  ·have hk:yA ⟨a,b,c⟩=none:=by unfold yA;rw[zA1 (by simp[c1,c2]),zA1 c3,zA1 (by simp[c5])]
   rw[hk];clear hk;subst c4;have q5:(c==0)=false:=by simpa using c5
   go_enter Tryz.func137,Tryz.ntmps137;go_wp2;go_ret2;exact⟨rfl,hb⟩
 ·have hk:yA ⟨a,b,c⟩=none:=by unfold yA;rw[zA1 (by simp[c1,c2]),zA1 c3,zA1 (by simp[c4])]
  rw[hk];clear hk;have q4:(b==1)=false:=by simpa using c4
  go_enter Tryz.func137,Tryz.ntmps137;go_wp2;go_ret2;exact⟨rfl,hb⟩
end Bd
namespace Bd
open Go.RowKit Go.Maps
structure WS(B:Nat)(w:World)(s b wk dm:Nat)(O:Nat->Prop)(F:FuncId)(op:Bool)(vars:Nat)(room:Int)(ns:List Nd)(m:List (Nd × Int)):Prop where
 space:zx B w s b O vars room ns
 work:xW B w wk dm s F m
 good:zU vars ns
 memo:Qj op ns m
 o1:¬O wk
 o2:¬O dm
 sd:s≠dm
 hB:B<=w.heap.size
structure MM(O O':Nat->Prop)(dm:Nat)(w w':World):Prop where
 kept:zc (fun j=>O j\/j=dm) w w'
 own:∀k,O' k->O k\/w.heap.size<=k
 map:∀k,O' k->qi w' k\/(O k/\¬qi w k)
structure YF(F:FuncId)(op:Bool):Prop where
 enters:∀(args:Array Value) (w:World),(callFunc F args).run Tryz.prog w=.ok (.enter F args) w
 does:∀(k:Nd) (w:World),zR F #[k.val] w (.tuple #[.int .i64 ((qL op k).getD 0),.bool (qL op k).isSome])
theorem zeM:YF 137 true:=⟨fun _ _=>by kernel_rfl,zmG⟩
section
variable {B s b wk dm:Nat} {O O' O'':Nat->Prop} {F:FuncId} {op:Bool} {vars:Nat} {room:Int} {ns:List Nd} {m:List (Nd × Int)} {w w' w'':World} {k:Nd}
theorem WS.new(h:WS B w s b wk dm O F op vars room ns m)(hb:zB w w'):WS B w' s b wk dm O F op vars room ns m :=
 ⟨h.space.new hb,h.work.new hb,h.good,h.memo,h.o1,h.o2,h.sd,Nat.le_trans h.hB hb.size⟩
theorem MM.of_below(hb:zB w w'):MM O O dm w w':=⟨zc.of_below hb _,fun _ h=>.inl h,(zV.of_below O hb).map⟩
theorem MM.of_moves(h:zV O O' w w'):MM O O' dm w w':=⟨h.kept.mono (fun _ h=>.inl h),h.own,h.map⟩
theorem MM.trans(h:MM O O' dm w w')(k:MM O' O'' dm w' w''):MM O O'' dm w w'' :=
 ⟨h.kept.andThen k.kept (fun i hi j=>by
   rcases hi with hi|hi
   ·rcases h.own i hi with h1|h1
    ·exact .inl h1
    ·omega
   ·exact .inr hi),fun i hi=>by
  rcases k.own i hi with h1|h1
  ·exact h.own i h1
  ·exact .inr (Nat.le_trans h.kept.size h1),fun i hi=>by
  rcases k.map i hi with h1|⟨h1,h2⟩
  ·exact .inl h1
  ·rcases h.map i h1 with h3|h3
   ·exact absurd h3 h2
   ·exact .inr h3⟩
theorem MM.size(h:MM O O' dm w w'):w.heap.size<=w'.heap.size:=h.kept.size
theorem MM.beside(h:MM O O' dm w w'){j:Nat}(hlt:j<w.heap.size)(hn:¬O j):¬O' j:=fun ho=>by
 rcases h.own j ho with h1|h1
 ·exact hn h1
 ·omega
theorem MM.cell(h:MM O O' dm w w'){a:Addr}(hlt:a.block<w.heap.size)(hn:¬O a.block)(hd:a.block≠dm):w'.cell? a=w.cell? a:=h.kept.cell hlt (fun ho=>ho.elim hn hd)
theorem MM.frozen(h:MM O O' dm w w'){a:Addr}(hlt:a.block<w.heap.size)(hn:¬O a.block)(hd:a.block≠dm):w'.frozen? a=w.frozen? a:=h.kept.frozen hlt (fun ho=>ho.elim hn hd)
theorem WS.moved(h:WS B w s b wk dm O F op vars room ns m){ns':List Nd}(hS:zx B w' s b O' vars room ns')(hm:zV O O' w w')(hg:zU vars ns')(hx:Ext ns ns'):WS B w' s b wk dm O' F op vars room ns' m :=
 ⟨hS,h.work.kept hm.kept h.o1 h.o2,hg,h.memo.ext h.good.ranked hx,hm.beside h.work.lt h.o1,hm.beside h.work.dlt h.o2,h.sd,Nat.le_trans h.hB hm.size⟩
theorem zcU(h3:yJ ns k)(hl:ns.length<=90000):k.Ok:=⟨xX h3.a (by omega),xX h3.b (by omega),xX h3.c (by omega)⟩
def Y7(B s b wk dm:Nat)(O:Nat->Prop)(F:FuncId)(op:Bool)(vars:Nat)(room:Int)(r:List Nd × List (Nd × Int) × Int)(w:World)(e:Ending)(w':World):Prop :=
 e=.returned (.tuple #[r.2.2,.nilIface])/\∃O',WS B w' s b wk dm O' F op vars room r.1 r.2.1/\MM O O' dm w w'
theorem zeS(h:WS B w s b wk dm O F op vars room ns m)(hF:YF F op)(x:Int)(hk:qL op k=some x) :
  zC 179 #[.pointer (some wk),k.val] w (Y7 B s b wk dm O F op vars room (ns,m,x) w):=by
 have HW:=zH h;have c1:=h.work.c1;have wl:=h.work.lt;have HK:Hid (∀W,zR F #[k.val] W (.tuple #[x,true])):=fun W=>by
  have:=hF.does k W;rw[hk] at this;exact this
 have q:=hF.enters;clear h hF hk;obtain⟨ka,kb,kc⟩:=k;have hb:=below_new w (.cells #[ka,kb,kc] 242);obtain⟨x0,x1,x2,-⟩:=xr w (.int .i64 ka) (.int .i64 kb) (.int .i64 kc) 242;have d1:=(hb.cell (p:=⟨wk,1,none⟩) wl).trans c1;have bl:w.heap.size<(w.alloc (.cells #[ka,kb,kc] 242)).heap.size:=by simp
 have y:=hb.size;have u:wk<(w.alloc (.cells #[ka,kb,kc] 242)).heap.size:=by omega
 unfold Nd.val at HK ⊢;go_enter Tryz.func179,Tryz.ntmps179;go_wp2_with fail;have HB:=zH hb;clear hb c1;generalize (w.alloc (.cells #[ka,kb,kc] 242))=W1 at *;have e0:W1.drew.cell? ⟨wk,1,none⟩=some (.func (.func F) #[] #[]):=d1;have f0:W1.drew.cell? w.heap.size=some (.int .i64 ka):=x0;have f1:W1.drew.cell? ⟨w.heap.size,1,none⟩=some (.int .i64 kb):=x1;have f2:W1.drew.cell? ⟨w.heap.size,2,none⟩=some (.int .i64 kc):=x2;go_region_held3 (fun w'=>w'.cell? ⟨wk,1,none⟩=some (.func (.func F) #[] #[])/\w'.cell? w.heap.size=some (.int .i64 ka)/\w'.cell? ⟨w.heap.size,1,none⟩=some (.int .i64 kb)/\w'.cell? ⟨w.heap.size,2,none⟩=some (.int .i64 kc)) (first|exact⟨e0,f0,f1,f2⟩|exact⟨(j.cell (p:=⟨wk,1,none⟩) u).trans e0,(j.cell (p:=w.heap.size) bl).trans f0,(j.cell (p:=⟨w.heap.size,1,none⟩) bl).trans f1,(j.cell (p:=⟨w.heap.size,2,none⟩) bl).trans f2⟩)
  (first|(with_reducible refine(HK.out _).mono ?_;rintro e w2 ⟨rfl,j⟩))
 go_wp2;go_ret2;have o:zB w w2:=(HB.out.drew).trans (j.mono HB.out.size);exact⟨rfl,O,HW.out.new o,MM.of_below o⟩
theorem zlU(h:WS B w s b wk dm O F op vars room ns m)(hF:YF F op)(x:Int)(hk:qL op k=none)(hx:(k,x)∈m) :
  zC 179 #[.pointer (some wk),k.val] w (Y7 B s b wk dm O F op vars room (ns,m,x) w):=by
 have HW:=zH h;have c1:=h.work.c1;have c2:=h.work.c2;have wl:=h.work.lt;have HL:Hid (∀W,zB w W->(Instr.lookup 317 (.map (some dm)) (.agg #[k.v,k.l,k.h]) true).run Tryz.prog W=.ok (.tuple #[x,true]) W):=fun W hW=>by
  obtain⟨D,hD,hR⟩:=(h.work.new hW).hmap;exact zma hD hR hx
 have HK:Hid (∀W,zR F #[k.val] W (.tuple #[(0:Int),false])):=fun W=>by
  have:=hF.does k W;rw[hk] at this;exact this
 have u:=hF.enters;clear h hF hk hx;obtain⟨ka,kb,kc⟩:=k;have hb:=below_new w (.cells #[ka,kb,kc] 242);obtain⟨x0,x1,x2,-⟩:=xr w (.int .i64 ka) (.int .i64 kb) (.int .i64 kc) 242;have d1:=(hb.cell (p:=⟨wk,1,none⟩) wl).trans c1;have d2:=(hb.cell (p:=⟨wk,2,none⟩) wl).trans c2;have bl:w.heap.size<(w.alloc (.cells #[ka,kb,kc] 242)).heap.size:=by simp
 have C:=hb.size;have q:wk<(w.alloc (.cells #[ka,kb,kc] 242)).heap.size:=by omega
 unfold Nd.val at HK ⊢;simp only at HL;go_enter Tryz.func179,Tryz.ntmps179;go_wp2_with fail;have HB:=zH hb;clear hb c1 c2;generalize (w.alloc (.cells #[ka,kb,kc] 242))=W1 at *;have e0:W1.drew.cell? ⟨wk,1,none⟩=some (.func (.func F) #[] #[]):=d1;have f0:W1.drew.cell? w.heap.size=some (.int .i64 ka):=x0;have f1:W1.drew.cell? ⟨w.heap.size,1,none⟩=some (.int .i64 kb):=x1;have f2:W1.drew.cell? ⟨w.heap.size,2,none⟩=some (.int .i64 kc):=x2;go_region_held3 (fun w'=>w'.cell? ⟨wk,1,none⟩=some (.func (.func F) #[] #[])/\w'.cell? w.heap.size=some (.int .i64 ka)/\w'.cell? ⟨w.heap.size,1,none⟩=some (.int .i64 kb)/\w'.cell? ⟨w.heap.size,2,none⟩=some (.int .i64 kc)) (first|exact⟨e0,f0,f1,f2⟩|exact⟨(j.cell (p:=⟨wk,1,none⟩) q).trans e0,(j.cell (p:=w.heap.size) bl).trans f0,(j.cell (p:=⟨w.heap.size,1,none⟩) bl).trans f1,(j.cell (p:=⟨w.heap.size,2,none⟩) bl).trans f2⟩)
  (first|(with_reducible refine(HK.out _).mono ?_;rintro e w2 ⟨rfl,j⟩))
 have o:zB w w2:=(HB.out.drew).trans (j.mono HB.out.size);have g0:w2.drew.cell? w.heap.size=some (.int .i64 ka):=(j.cell (p:=w.heap.size) bl).trans f0;have g1:w2.drew.cell? ⟨w.heap.size,1,none⟩=some (.int .i64 kb):=(j.cell (p:=⟨w.heap.size,1,none⟩) bl).trans f1;have g2:w2.drew.cell? ⟨w.heap.size,2,none⟩=some (.int .i64 kc):=(j.cell (p:=⟨w.heap.size,2,none⟩) bl).trans f2;have gm:w2.drew.cell? ⟨wk,2,none⟩=some (.map (some dm)):=(j.cell (p:=⟨wk,2,none⟩) q).trans d2;have y:=HL.out _ o.drew;clear e0 f0 f1 f2 HK HL d1 d2 x0 x1 x2;go_wp2_with fail;go_region_held3 (fun w'=>w'.cell? ⟨wk,2,none⟩=some (.map (some dm))/\w'.cell? w.heap.size=some (.int .i64 ka)/\w'.cell? ⟨w.heap.size,1,none⟩=some (.int .i64 kb)/\w'.cell? ⟨w.heap.size,2,none⟩=some (.int .i64 kc)) (exact⟨gm,g0,g1,g2⟩) (first|fail);go_wp2;go_ret2;exact⟨rfl,O,HW.out.new o.drew,MM.of_below o.drew⟩
end
end Bd
namespace Bd
open Go.RowKit Go.Maps
theorem zmO{P:Program}(w:World)(ts:Array TypeId)(t:TypeId)(k:IntKind)(x y z:Int) :
  (Builtin.min_ ts t #[.int k x,.int k y,.int k z]).run P w=.ok (.int k (min (min x y) z)) w:=by
 have e:∀x y:Int,(if y<x then y else x)=min x y:=fun x y=>by
  rw[Int.min_def];split<;>split<;>omega
 simp[Builtin.min_,Builtin.min2,e]
structure Tri(w:World)(bk:Nat)(a b c:Int):Prop where
 lt:bk<w.heap.size
 c0:w.cell? bk=some (.int .i64 a)
 c1:w.cell? ⟨bk,1,none⟩=some (.int .i64 b)
 c2:w.cell? ⟨bk,2,none⟩=some (.int .i64 c)
 fz:∀i,w.frozen? ⟨bk,i,none⟩=false
section
variable {w w':World} {bk bk' i:Nat} {a b c:Int}
theorem Tri.kept{S:Nat->Prop}(h:Tri w bk a b c)(hk:zc S w w')(hn:¬S bk):Tri w' bk a b c :=
 ⟨Nat.lt_of_lt_of_le h.lt hk.size,(hk.cell (a:=bk) h.lt hn).trans h.c0,(hk.cell (a:=⟨bk,1,none⟩) h.lt hn).trans h.c1,(hk.cell (a:=⟨bk,2,none⟩) h.lt hn).trans h.c2,fun i=>(hk.frozen (a:=⟨bk,i,none⟩) h.lt hn).trans (h.fz i)⟩
theorem Tri.new(h:Tri w bk a b c)(hb:zB w w'):Tri w' bk a b c:=h.kept (zc.of_below hb (fun _=>False)) (fun h=>h)
theorem Tri.other(h:Tri w bk a b c)(u:Value)(hne:bk≠bk'):Tri (w.setCell ⟨bk',i,none⟩ u) bk a b c:=h.kept (zc.setCell (S:=fun j=>j=bk') w ⟨bk',i,none⟩ u rfl) hne
theorem zal(w:World)(x:Addr)(u:Value):(w.setCell x u).heap.size=w.heap.size:=by simp[World.setCell]
theorem Tri.set0(h:Tri w bk a b c)(x:Int):Tri (w.setCell bk (.int .i64 x)) bk x b c :=
 ⟨by rw[zal];exact h.lt,World.cell?_setCell_same _ _ _ h.c0,by rw[World.cell?_setCell_other _ _ _ _ (by simp)];exact h.c1,by rw[World.cell?_setCell_other _ _ _ _ (by simp)];exact h.c2,fun i=>by rw[World.frozen?_setCell];exact h.fz i⟩
theorem Tri.set1(h:Tri w bk a b c)(x:Int):Tri (w.setCell ⟨bk,1,none⟩ (.int .i64 x)) bk a x c :=
 ⟨by rw[zal];exact h.lt,by rw[World.cell?_setCell_other _ _ _ _ (by simp)];exact h.c0,World.cell?_setCell_same _ _ _ h.c1,by rw[World.cell?_setCell_other _ _ _ _ (by simp)];exact h.c2,fun i=>by rw[World.frozen?_setCell];exact h.fz i⟩
theorem Tri.set2(h:Tri w bk a b c)(x:Int):Tri (w.setCell ⟨bk,2,none⟩ (.int .i64 x)) bk a b x :=
 ⟨by rw[zal];exact h.lt,by rw[World.cell?_setCell_other _ _ _ _ (by simp)];exact h.c0,by rw[World.cell?_setCell_other _ _ _ _ (by simp)];exact h.c1,World.cell?_setCell_same _ _ _ h.c2,fun i=>by rw[World.frozen?_setCell];exact h.fz i⟩
theorem zaH(w:World)(a b c:Int)(t:TypeId):Tri (w.alloc (.cells #[a,b,c] t)) w.heap.size a b c:=by
 obtain⟨x0,x1,x2,x3⟩:=xr w (.int .i64 a) (.int .i64 b) (.int .i64 c) t;exact⟨by simp,x0,x1,x2,x3⟩
end
theorem zln(a b c:Value)(w:World):(Instr.index 242 (.agg #[a,b,c]) (.int .i64 0)).run Tryz.prog w=.ok a w:=by kernel_rfl
theorem zmv(a b c:Value)(w:World):(Instr.index 242 (.agg #[a,b,c]) (.int .i64 1)).run Tryz.prog w=.ok b w:=by kernel_rfl
theorem zkT(a b c:Value)(w:World):(Instr.index 242 (.agg #[a,b,c]) (.int .i64 2)).run Tryz.prog w=.ok c w:=by kernel_rfl
def ze0(B s b wk dm:Nat)(F:FuncId)(op:Bool)(vars:Nat)(room:Int)(d:Nat):Prop :=
 ∀(ns:List Nd) (m:List (Nd × Int)) (k:Nd) (O:Nat->Prop) (w:World),WS B w s b wk dm O F op vars room ns m->yJ ns k->24<=zg ns k+d->((cnt ns+2^rk vars ns k:Nat):Int)<=room+1->ns.length+2^rk vars ns k<=90000->m.length+2^rk vars ns k<=90000 ->
  zC 179 #[.pointer (some wk),k.val] w (Y7 B s b wk dm O F op vars room (zu d op ns m k) w)
theorem ziY{d:Nat}{op:Bool}{ns:List Nd}{m:List (Nd × Int)}{k:Nd}(hk:qL op k=none)(hn:look m k=none) :
  zu (d + 1) op ns m k=((yi (zu d op (zu d op ns m (loK ns k (zg ns k))).1 (zu d op ns m (loK ns k (zg ns k))).2.1 (hiK ns k (zg ns k))).1 (zg ns k) (zu d op ns m (loK ns k (zg ns k))).2.2 (zu d op (zu d op ns m (loK ns k (zg ns k))).1 (zu d op ns m (loK ns k (zg ns k))).2.1 (hiK ns k (zg ns k))).2.2).1,
   Zw (zu d op (zu d op ns m (loK ns k (zg ns k))).1 (zu d op ns m (loK ns k (zg ns k))).2.1 (hiK ns k (zg ns k))).2.1 k (yi (zu d op (zu d op ns m (loK ns k (zg ns k))).1 (zu d op ns m (loK ns k (zg ns k))).2.1 (hiK ns k (zg ns k))).1 (zg ns k) (zu d op ns m (loK ns k (zg ns k))).2.2 (zu d op (zu d op ns m (loK ns k (zg ns k))).1 (zu d op ns m (loK ns k (zg ns k))).2.1 (hiK ns k (zg ns k))).2.2).2,
   (yi (zu d op (zu d op ns m (loK ns k (zg ns k))).1 (zu d op ns m (loK ns k (zg ns k))).2.1 (hiK ns k (zg ns k))).1 (zg ns k) (zu d op ns m (loK ns k (zg ns k))).2.2 (zu d op (zu d op ns m (loK ns k (zg ns k))).1 (zu d op ns m (loK ns k (zg ns k))).2.1 (hiK ns k (zg ns k))).2.2).2):=by
 conv=>lhs;unfold zu
 rw[hk];simp only;rw[hn]
section
variable {B s b wk dm:Nat} {O:Nat->Prop} {F:FuncId} {op:Bool} {vars:Nat} {room:Int} {ns:List Nd} {m:List (Nd × Int)} {w:World} {k:Nd}
theorem zgd(hroom:room<=4000)(hF:YF F op)(d:Nat)(ih:ze0 B s b wk dm F op vars room d)(h:WS B w s b wk dm O F op vars room ns m)(h3:yJ ns k)(hd:24<=zg ns k+(d+1:Nat))(hlc:((cnt ns+2^rk vars ns k:Nat):Int)<=room+1)(hl:ns.length+2^rk vars ns k<=90000)(hm:m.length+2^rk vars ns k<=90000)
  (hk:qL op k=none) (hn:look m k=none) :
  zC 179 #[.pointer (some wk),k.val] w (Y7 B s b wk dm O F op vars room (zu (d+1) op ns m k) w):=by
 have bp:=Nat.one_le_two_pow (n:=rk vars ns k);have b8:ns.length<=90000:=by omega
 have hr:=h.good.ranked;have hv:=Xs hr h3 hk;have aQ:=(QK hr k).1;have ax:=zcU h3 (by omega);have aO:=zpr hn;have bb:=zam h.good hv;obtain⟨l3,lt⟩:=zbM hr h3 hv;obtain⟨g3,gt⟩:=zbr hr h3 hv;have ay:2^rk vars ns k=2^(rk vars ns k-1)+2^(rk vars ns k-1):=by
  have:1<=rk vars ns k:=by unfold rk;omega
  obtain⟨q,hq⟩:∃q,rk vars ns k=q+1:=⟨rk vars ns k-1,by omega⟩;rw[hq,Nat.add_sub_cancel,Nat.pow_succ];omega
 have be:=Nat.one_le_two_pow (n:=rk vars ns k-1);have p1:2^rk vars ns (loK ns k (zg ns k))<=2^(rk vars ns k-1):=Nat.pow_le_pow_right (by omega) (by unfold rk;omega);have i1:=Qi (op:=op) d ns m (loK ns k (zg ns k)) h.good h.memo l3 (by omega) (by omega);have V:=Qi (op:=op) (d+1) ns m k h.good h.memo h3 hd (by omega);rw[ziY hk hn] at V ⊢;have C1:=ih ns m (loK ns k (zg ns k)) O;generalize zu d op ns m (loK ns k (zg ns k))=r1 at *;have g3':=g3.ext i1.ext;have gm:=Xl g3 i1.ext;have p2:2^rk vars r1.1 (hiK ns k (zg ns k))<=2^(rk vars ns k-1):=Nat.pow_le_pow_right (by omega) (by unfold rk;rw[gm];omega);have l1:=i1.len;have b4:=i1.cnt;have m1:=i1.mlen;have i2:=Qi (op:=op) d r1.1 r1.2.1 (hiK ns k (zg ns k)) i1.good i1.memo g3' (by rw[gm];omega) (by omega);have C2:=fun O'=>ih r1.1 r1.2.1 (hiK ns k (zg ns k)) O';generalize zu d op r1.1 r1.2.1 (hiK ns k (zg ns k))=r2 at *;have l2:=i2.len;have b5:=i2.cnt;have m2:=i2.mlen;have h1':=i2.ext.has _ i1.has;have t1':za r2.1 r1.2.2=za r1.1 r1.2.2:=i2.ext.top _ i1.has;have i3:=Q4 i2.good (v:=zg ns k) (l:=r1.2.2) (h:=r2.2.2) (by omega) aQ hv bb h1' i2.has (by rw[t1'];have:=i1.top;omega) (by have:=i2.top;rw[gm] at this;omega);have am:Hid (∀W,zB w W->zC 179 #[.pointer (some wk),(loK ns k (zg ns k)).val] W (Y7 B s b wk dm O F op vars room r1 W)):=fun W hW=>C1 W (h.new hW) l3 (by omega) (by omega) (by omega) (by omega);have an:Hid (∀O' W,WS B W s b wk dm O' F op vars room r1.1 r1.2.1->zC 179 #[.pointer (some wk),(hiK ns k (zg ns k)).val] W (Y7 B s b wk dm O' F op vars room r2 W)):=fun O' W hW=>C2 O' W hW g3' (by rw[gm];omega) (by omega) (by omega) (by omega);have aB:Hid (∀O' W,zx B W s b O' vars room r2.1->B<=W.heap.size->zC 175 #[.pointer (some s),(zg ns k),r1.2.2,r2.2.2] W fun e w'=>e=.returned (.tuple #[.int .i64 (yi r2.1 (zg ns k) r1.2.2 r2.2.2).2,.nilIface])/\∃O'',zx B w' s b O'' vars room (yi r2.1 (zg ns k) r1.2.2 r2.2.2).1/\zV O' O'' W w'):=fun O' W hW b6 =>
  za4 hW (by omega) (by omega) b6 (zg ns k) r1.2.2 r2.2.2 aQ hv h1' i2.has (by rw[t1'];have:=i1.top;omega) (by have:=i2.top;rw[gm] at this;omega)
 generalize yi r2.1 (zg ns k) r1.2.2 r2.2.2=r3 at *;have bg:=zH i2;have ap:=zH i3;have U:=zH V;have b9:r2.2.1.length<=90000:=by omega
 clear C1 C2 i1 i2 i3 V l3 lt g3 gt ay be p1 g3' gm p2 l1 m1 l2 m2 b4 b5 h1' t1';have HW:=zH h;have H3:=zH h3;have c0:=h.work.c0;have c1:=h.work.c1;have c2:=h.work.c2;have wl:=h.work.lt;have sl:=h.space.slt;have s0:=h.space.c0;have HL:Hid (∀W,zB w W->(Instr.lookup 317 (.map (some dm)) (.agg #[k.v,k.l,k.h]) true).run Tryz.prog W=.ok (.tuple #[(0:Int),false]) W):=fun W hW=>by
  obtain⟨D,hD,hR⟩:=(h.work.new hW).hmap;exact zl1 hD hR ax aO
 have HK:Hid (∀W,zR F #[k.val] W (.tuple #[(0:Int),false])):=fun W=>by
  have:=hF.does k W;rw[hk] at this;exact this
 have HT:Hid (∀(x:Int) (W:World),I64 x->zB w W->zC 98 #[.pointer (some b),.int .i64 x] W fun e w'=>e=.returned (.int .i64 (za ns x))/\W=w'):=fun x W hx hW=>zdY (h.space.new hW) x hx (by omega);have af:Hid (∀(x:Int) (W:World),I64 x->zB w W->zR 210 #[.pointer (some s),.int .i64 x,(zg ns k)] W (.tuple #[.int .i64 (loS ns x (zg ns k)),.int .i64 (hiS ns x (zg ns k))])):=fun x W hx hW=>zh5 (h.space.new hW) (by omega) x _ hx hv;have av:=hF.enters;have aw:=@zmO Tryz.prog;have ae:=zH ax;have aI:zg ns k=min (min (za ns k.v) (za ns k.l)) (za ns k.h):=rfl;have aY:=zH aI;clear h h3 ih hF hk aO hn ax aI hd;have hb:=below_new w (.cells #[k.v,k.l,k.h] 242);obtain⟨x0,x1,x2,-⟩:=xr w (.int .i64 k.v) (.int .i64 k.l) (.int .i64 k.h) 242;have d1:=(hb.cell (p:=⟨wk,1,none⟩) wl).trans c1;have bl:w.heap.size<(w.alloc (.cells #[k.v,k.l,k.h] 242)).heap.size:=by simp
 have bj:=hb.size;have bf:wk<(w.alloc (.cells #[k.v,k.l,k.h] 242)).heap.size:=by omega
 have TB:=zH (zaH w k.v k.l k.h 242);unfold Nd.val at HK ⊢;go_enter Tryz.func179,Tryz.ntmps179;go_wp2_with fail;have HB:=zH hb;clear hb;generalize (w.alloc (.cells #[k.v,k.l,k.h] 242))=W1 at *;have e0:W1.drew.cell? ⟨wk,1,none⟩=some (.func (.func F) #[] #[]):=d1;have f0:W1.drew.cell? w.heap.size=some (.int .i64 k.v):=x0;have f1:W1.drew.cell? ⟨w.heap.size,1,none⟩=some (.int .i64 k.l):=x1;have f2:W1.drew.cell? ⟨w.heap.size,2,none⟩=some (.int .i64 k.h):=x2;go_region_held3 (fun w'=>w'.cell? ⟨wk,1,none⟩=some (.func (.func F) #[] #[])/\w'.cell? w.heap.size=some (.int .i64 k.v)/\w'.cell? ⟨w.heap.size,1,none⟩=some (.int .i64 k.l)/\w'.cell? ⟨w.heap.size,2,none⟩=some (.int .i64 k.h)) (first|exact⟨e0,f0,f1,f2⟩|exact⟨(y.cell (p:=⟨wk,1,none⟩) bf).trans e0,(y.cell (p:=w.heap.size) bl).trans f0,(y.cell (p:=⟨w.heap.size,1,none⟩) bl).trans f1,(y.cell (p:=⟨w.heap.size,2,none⟩) bl).trans f2⟩)
  (first|(with_reducible refine(HK.out _).mono ?_;rintro e w2 ⟨rfl,y⟩))
 have ai:zB w w2:=(HB.out.drew).trans (y.mono HB.out.size);have g0:w2.drew.cell? w.heap.size=some (.int .i64 k.v):=(y.cell (p:=w.heap.size) bl).trans f0;have g1:w2.drew.cell? ⟨w.heap.size,1,none⟩=some (.int .i64 k.l):=(y.cell (p:=⟨w.heap.size,1,none⟩) bl).trans f1;have g2:w2.drew.cell? ⟨w.heap.size,2,none⟩=some (.int .i64 k.h):=(y.cell (p:=⟨w.heap.size,2,none⟩) bl).trans f2;have gm:w2.drew.cell? ⟨wk,2,none⟩=some (.map (some dm)):=(ai.cell (p:=⟨wk,2,none⟩) wl).trans c2;have a8:=HL.out _ ai.drew;have aZ:w.heap.size<w2.heap.size:=Nat.lt_of_lt_of_le bl y.size;have aG:Hid (Tri w2.drew w.heap.size k.v k.l k.h):=((TB.out.new zF.drew).new y).new zF.drew;clear TB;clear e0 f0 f1 f2 HK HL d1 x0 x1 x2 av y HB;go_wp2_with fail;go_region_held3 (fun w'=>w'.cell? ⟨wk,2,none⟩=some (.map (some dm))/\w'.cell? w.heap.size=some (.int .i64 k.v)/\w'.cell? ⟨w.heap.size,1,none⟩=some (.int .i64 k.l)/\w'.cell? ⟨w.heap.size,2,none⟩=some (.int .i64 k.h)) (exact⟨gm,g0,g1,g2⟩) (first|fail);clear a8;have ac:=zH ai.drew;have ah:w.heap.size<w2.drew.heap.size:=aZ;clear ai;generalize w2.drew=W3 at *;have SC:Hid (∀X,zB W3 X->(X.cell? wk=some (.pointer (some s))/\X.cell? s=some (.pointer (some b))/\X.cell? w.heap.size=some (.int .i64 k.v)/\X.cell? ⟨w.heap.size,1,none⟩=some (.int .i64 k.l)/\X.cell? ⟨w.heap.size,2,none⟩=some (.int .i64 k.h))):=fun X hX =>
  ⟨((zT ac.out hX).cell (p:=wk) wl).trans c0,((zT ac.out hX).cell (p:=s) sl).trans s0,(hX.cell (p:=w.heap.size) ah).trans g0,(hX.cell (p:=⟨w.heap.size,1,none⟩) ah).trans g1,(hX.cell (p:=⟨w.heap.size,2,none⟩) ah).trans g2⟩
 have D0:zB W3 W3.drew:=zF.drew;have T0:=ae.out.1;have T1:=ae.out.2.1;have T2:=ae.out.2.2;clear g0 g1 g2 gm;go_wp2_with fail;go_region_held3 (fun X=>X.cell? wk=some (.pointer (some s))/\X.cell? s=some (.pointer (some b))/\X.cell? w.heap.size=some (.int .i64 k.v)/\X.cell? ⟨w.heap.size,1,none⟩=some (.int .i64 k.l)/\X.cell? ⟨w.heap.size,2,none⟩=some (.int .i64 k.h)) (exact SC.out _ D0)
  (first|(go_at_call 98;with_reducible refine(HT.out _ _ (by first|exact T0|exact T1|exact T2) ac.out.drew).mono ?_;rintro e wz ⟨rfl,rfl⟩))
 have aN:min (za ns k.v) (min (za ns k.l) (za ns k.h))=zg ns k:=by unfold zg;omega
 rw[aN];clear aN aw HT aY;have aA:=zH ac.out.drew;have ag:Hid (∀X,Below W3.drew.heap.size W3.drew X->X.cell? wk=some (.pointer (some s))/\Tri X w.heap.size k.v k.l k.h):=fun X hX=>⟨((zT aA.out hX).cell (p:=wk) wl).trans c0,(aG.out.new zF.drew).new hX⟩;generalize za ns k.v=tv at *;generalize za ns k.l=tl at *;generalize za ns k.h=th at *;have bh:w.heap.size<W3.drew.heap.size:=ah;clear SC D0 aG;generalize W3.drew=W4 at *;obtain⟨g0,g1⟩:=ag.out _ (Below.refl _ W4);have q0:=g1.c0;have q1:=g1.c1;have q2:=g1.c2;have zz:(W4.alloc (.cells #[(0:Int),(0:Int),(0:Int)] 242)).heap.size=W4.heap.size+1:=by simp
 have TL:=zH ((zaH W4 0 0 0 242).new (below_new _ (.cells #[(0:Int),(0:Int),(0:Int)] 242)));have ar:=zaH (W4.alloc (.cells #[(0:Int),(0:Int),(0:Int)] 242)) 0 0 0 242;rw[zz] at ar;have TH:=zH ar;have B5:Hid (zB W4 ((W4.alloc (.cells #[(0:Int),(0:Int),(0:Int)] 242)).alloc (.cells #[(0:Int),(0:Int),(0:Int)] 242))):=(below_new W4 _).alloc (below_new W4 _).size _;clear ar zz;generalize zg ns k=v at *;have KV:=zH T0;have KL:=zH T1;have KH:=zH T2;clear T0 T1 T2;go_wp2_with fail;go_loopw [73] (fun i wr=>zB W4 wr/\(
   (i=.int .i64 0/\Tri wr W4.heap.size 0 0 0/\Tri wr (W4.heap.size+1) 0 0 0) \/
   (i=.int .i64 1/\Tri wr W4.heap.size (loS ns k.v v) 0 0/\Tri wr (W4.heap.size+1) (hiS ns k.v v) 0 0) \/
   (i=.int .i64 2/\Tri wr W4.heap.size (loS ns k.v v) (loS ns k.l v) 0/\Tri wr (W4.heap.size+1) (hiS ns k.v v) (hiS ns k.l v) 0) \/
   (i=.int .i64 3/\Tri wr W4.heap.size (loS ns k.v v) (loS ns k.l v) (loS ns k.h v)/\Tri wr (W4.heap.size + 1) (hiS ns k.v v) (hiS ns k.l v) (hiS ns k.h v))))
  (fun i _=>3-(intOf i).toNat)
 case atStart=>exact⟨B5.out,.inl ⟨rfl,TL.out,TH.out⟩⟩
 case round =>
  obtain⟨a5,hrel⟩:=hrel;obtain⟨y0,-⟩:=ag.out _ a5;have K:=zT aA.out a5;have Y:=a5.size;have ad:=zH a5;clear TL TH B5 a5;rcases hrel with ⟨rfl,t1,t2⟩|⟨rfl,t1,t2⟩|⟨rfl,t1,t2⟩|⟨rfl,t1,t2⟩
  ·have HC:=zH (af.out k.v wr KV.out K);generalize loS ns k.v v=lo at *;generalize hiS ns k.v v=hi at *;have T1':=zH t1;have T2':=zH t2;clear t1 t2 K;have a7:=zln;go_wp2_with fail;clear a7;refine HC.out.mono ?_;rintro e w5 ⟨rfl,o⟩;have u1:=T1'.out.new o;have u2:=T2'.out.new o;have z0:=u1.c0;have z1:=u1.fz 0;have u1':=u1.set0 lo;have u2':=(u2.other (bk':=W4.heap.size) (i:=0) (.int .i64 lo) (by omega));have z2:=u2'.c0;have z3:=u2'.fz 0;have R:=ad.out.trans (o.mono Y);have U1:=zH (u1'.other (bk':=W4.heap.size+1) (i:=0) (.int .i64 hi) (by omega));have U2:=zH (u2'.set0 hi);have Z:Hid (zB W4 ((w5.setCell W4.heap.size (.int .i64 lo)).setCell ⟨W4.heap.size+1,0,none⟩ (.int .i64 hi))):=(R.setCell zN _).setCell (Nat.le_succ _) _;clear u1 u2 u1' u2' HC o R;go_wp2;go_roundw
   case rel=>exact⟨Z.out,.inr (.inl ⟨rfl,U1.out,U2.out⟩)⟩
   case measure=>simp[intOf]
  ·have HC:=zH (af.out k.l wr KL.out K);generalize loS ns k.l v=lo at *;generalize hiS ns k.l v=hi at *;have T1':=zH t1;have T2':=zH t2;clear t1 t2 K;have a7:=zmv;go_wp2_with fail;clear a7;refine HC.out.mono ?_;rintro e w5 ⟨rfl,o⟩;have u1:=T1'.out.new o;have u2:=T2'.out.new o;have z0:=u1.c1;have z1:=u1.fz 1;have u1':=u1.set1 lo;have u2':=(u2.other (bk':=W4.heap.size) (i:=1) (.int .i64 lo) (by omega));have z2:=u2'.c1;have z3:=u2'.fz 1;have R:=ad.out.trans (o.mono Y);have U1:=zH (u1'.other (bk':=W4.heap.size+1) (i:=1) (.int .i64 hi) (by omega));have U2:=zH (u2'.set1 hi);have Z:Hid (zB W4 ((w5.setCell ⟨W4.heap.size,1,none⟩ (.int .i64 lo)).setCell ⟨W4.heap.size+1,1,none⟩ (.int .i64 hi))):=(R.setCell zN _).setCell (Nat.le_succ _) _;clear u1 u2 u1' u2' HC o R;go_wp2;go_roundw
   case rel=>exact⟨Z.out,.inr (.inr (.inl ⟨rfl,U1.out,U2.out⟩))⟩
   case measure=>simp[intOf]
  ·have HC:=zH (af.out k.h wr KH.out K);generalize loS ns k.h v=lo at *;generalize hiS ns k.h v=hi at *;have T1':=zH t1;have T2':=zH t2;clear t1 t2 K;have a7:=zkT;go_wp2_with fail;clear a7;refine HC.out.mono ?_;rintro e w5 ⟨rfl,o⟩;have u1:=T1'.out.new o;have u2:=T2'.out.new o;have z0:=u1.c2;have z1:=u1.fz 2;have u1':=u1.set2 lo;have u2':=(u2.other (bk':=W4.heap.size) (i:=2) (.int .i64 lo) (by omega));have z2:=u2'.c2;have z3:=u2'.fz 2;have R:=ad.out.trans (o.mono Y);have U1:=zH (u1'.other (bk':=W4.heap.size+1) (i:=2) (.int .i64 hi) (by omega));have U2:=zH (u2'.set2 hi);have Z:Hid (zB W4 ((w5.setCell ⟨W4.heap.size,2,none⟩ (.int .i64 lo)).setCell ⟨W4.heap.size+1,2,none⟩ (.int .i64 hi))):=(R.setCell zN _).setCell (Nat.le_succ _) _;clear u1 u2 u1' u2' HC o R;go_wp2;go_roundw
   case rel=>exact⟨Z.out,.inr (.inr (.inr ⟨rfl,U1.out,U2.out⟩))⟩
   case measure=>simp[intOf]
  ·have aL:(loK ns k v).val=.agg #[(loS ns k.v v),(loS ns k.l v),.int .i64 (loS ns k.h v)]:=rfl;have aK:(hiK ns k v).val=.agg #[(hiS ns k.v v),(hiS ns k.l v),.int .i64 (hiS ns k.h v)]:=rfl;rw[aL] at am;rw[aK] at an;clear aL aK af;generalize loS ns k.v v=la at *;generalize loS ns k.l v=lb at *;generalize loS ns k.h v=lc at *;generalize hiS ns k.v v=ha at *;generalize hiS ns k.l v=hb at *;generalize hiS ns k.h v=hc at *;have TK:=zH (ag.out _ ad.out).2;have z0:=t1.c0;have z1:=t1.c1;have z2:=t1.c2;have aD:=zH t2;have HC1':=zH (am.out _ K);have aW:=zH K;have OO:=zH (fun j (ho:O j)=>(HW.out.space.own j ho).2);have dl:=HW.out.work.dlt;clear am t1 t2 K ag;go_wp2_with fail;refine HC1'.out.mono ?_;rintro e w7 ⟨rfl,O1,bc,aa⟩;have bn:=aa.size;have ak:Tri w7 (W4.heap.size+1) ha hb hc:=aD.out.kept aa.kept (fun ho=>ho.elim (fun h=>by have:=OO.out _ h;omega) (fun h=>by omega));have aT:Tri w7 w.heap.size k.v k.l k.h:=TK.out.kept aa.kept (fun ho=>ho.elim (fun h=>by have:=OO.out _ h;omega) (fun h=>by omega));have z3:=ak.c0;have z4:=ak.c1;have z5:=ak.c2;have HC2':=zH (an.out O1 w7 bc);have aE:=zH aT;have aq:=zH aa;clear HC1' an aD TK ak aT aa z0 z1 z2;go_wp2_with fail;refine HC2'.out.mono ?_;rintro e w8 ⟨rfl,O2,a9,ab⟩;have bo:=ab.size;have bi:dm<w7.heap.size:=by omega
   have aS:¬O1 w.heap.size:=aq.out.beside (by omega) (fun h=>by have:=OO.out _ h;omega);have aU:Tri w8 w.heap.size k.v k.l k.h:=aE.out.kept ab.kept (fun ho=>ho.elim aS (fun h=>by omega));have bd:¬O2 w.heap.size:=ab.beside (by omega) aS;have y8:=a9.work.c0;have HC3':=zH (aB.out O2 w8 a9.space a9.hB);have a4:=zH aU;have aC:=zH (aq.out.trans ab);have aF:=zH a9;clear HC2' aB aE aq aU ab a9 z3 z4 z5;go_wp2_with fail;refine HC3'.out.mono ?_;rintro e w9 ⟨rfl,O3,aP,aj⟩;have J:=aF.out.moved aP aj ap.out.good ap.out.ext;have aV:Tri w9 w.heap.size k.v k.l k.h:=a4.out.kept aj.kept bd;have aR:=aC.out.trans (MM.of_moves (dm:=dm) aj);have u:=J.new (Below.refl _ w9).drew;obtain⟨D,hD,hR⟩:=u.work.hmap;obtain⟨az,D',a8,aH,aJ,hK⟩:=znE hD hR (by omega) ae.out (x:=r3.2) ap.out.i64;have a0:w9.drew.cell? ⟨wk,2,none⟩=some (.map (some dm)):=J.work.c2;have C:=aV.new (Below.refl _ w9).drew;have a1:=C.c0;have a2:=C.c1;have a3:=C.c2;have ba:wk≠dm:=fun e=>J.work.d e.symm;have au:w.heap.size≠dm:=by omega
   have b7:=u.work.lt;have b0:=(hK.cell (a:=⟨wk,2,none⟩) b7 ba).trans a0;have M:=C.kept hK au;have b1:=M.c0;have b2:=M.c1;have b3:=M.c2;have a6:WS B az s b wk dm O3 F op vars room r3.1 (Zw r2.2.1 k r3.2) :=
    ⟨u.space.kept hK (fun j ho e=>J.o2 (e▸ho)) J.sd,u.work.turned hK aH aJ,U.out.good,U.out.memo,J.o1,J.o2,J.sd,Nat.le_trans u.hB hK.size⟩
   have aM:MM O O3 dm w az:=by
    have h1:MM O O3 dm w w9:=(MM.of_below aW.out).trans aR;have h2:MM O3 O3 dm w9 az:=⟨(zc.refl _ w9).drew.andThen (hK.mono (fun j hj=>.inr hj)) (fun j hj _=>hj),fun _ h=>.inl h,fun j hj=>(Classical.em (qi w9 j)).imp (fun c=>qi.kept (w:=w9.drew) c hK (fun e=>J.o2 (e▸hj))) (fun n=>⟨hj,n⟩)⟩;exact h1.trans h2
   have ao:=zH a6;have aX:=zH aM;clear HC3' a4 aC aF aP aj J aV aR u hD hR aH aJ hK C M a6 aM U y8;go_wp2_with fail;go_region_held3 (fun X=>X.cell? ⟨wk,2,none⟩=some (.map (some dm))/\X.cell? w.heap.size=some (.int .i64 k.v)/\X.cell? ⟨w.heap.size,1,none⟩=some (.int .i64 k.l)/\X.cell? ⟨w.heap.size,2,none⟩=some (.int .i64 k.h)) (first|exact⟨a0,a1,a2,a3⟩|exact⟨b0,b1,b2,b3⟩) (first|fail);go_wp2;go_ret2;exact⟨rfl,O3,ao.out,aX.out⟩
theorem zeN(hroom:room<=4000)(hF:YF F op):∀d,ze0 B s b wk dm F op vars room d
 |0=>fun ns m k O w h h3 hd j hl hm=>by
  unfold zu;cases e:qL op k with
  |none=>have:=Xs h.good.ranked h3 e;omega
  |some x=>exact zeS h hF x e
 |d+1=>fun ns m k O w h h3 hd j hl hm=>by
  cases e:qL op k with
  |some x =>
   have:zu (d+1) op ns m k=(ns,m,x):=by unfold zu;rw[e]
   rw[this];exact zeS h hF x e
  |none =>
   cases e2:look m k with
   |some x =>
    have:zu (d+1) op ns m k=(ns,m,x):=by unfold zu;rw[e];simp only;rw[e2]
    rw[this];exact zlU h hF x e (zeo e2)
   |none=>exact zgd hroom hF d (zeN hroom hF d) h h3 hd j hl hm e e2
end
end Bd
end Go.Proofs.YthifnefkdjkicaaGreatDoor
